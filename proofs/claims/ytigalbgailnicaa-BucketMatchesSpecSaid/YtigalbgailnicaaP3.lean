import Derived.Test.YtigalbgailnicaaH
import Derived.Deep.Cut
namespace Go.Proofs.Ytigalbgailnicaa
set_option linter.unusedVariables false
set_option linter.unusedSimpArgs false
open Go.RowKit Go.Sort
set_option maxRecDepth 100000 in
set_option maxHeartbeats 3000000 in
theorem matches_spec (c n d l a t k u : Int) (w : World)  :
    Calls Try.prog 3 #[bk c n d l a, .int .i64 t, .int .i64 k, .int .i64 u] w fun e w' => e = .returned (.bool true) ∧ Below w.heap.size w w' := by
  obtain ⟨v1, i1, j1⟩ := valid_both c n d l a
  obtain ⟨v2, i2, j2⟩ := tokens_both c n d l a
  obtain ⟨nc, nn, nd, nl, na, ne, i3, j3⟩ := new_both c n d a
  obtain ⟨rc, rn, rd, rl, ra, re, i4, j4⟩ := refill_both c n d l a t
  obtain ⟨tc, tn, td, tl, ta, te, i5, j5⟩ := take_both c n d l a t k
  obtain ⟨y, ye, i6, j6⟩ := wait_both c n d l a k
  obtain ⟨z, ze, i7, j7⟩ := most_both c n d l a t u
  have I1 := Lib.hid i1; have J1 := Lib.hid j1; clear i1 j1
  have I2 := Lib.hid i2; have J2 := Lib.hid j2; clear i2 j2
  have I3 := Lib.hid i3; have J3 := Lib.hid j3; clear i3 j3
  have I4 := Lib.hid i4; have J4 := Lib.hid j4; clear i4 j4
  have I5 := Lib.hid i5; have J5 := Lib.hid j5; clear i5 j5
  have I6 := Lib.hid i6; have J6 := Lib.hid j6; clear i6 j6
  have I7 := Lib.hid i7; have J7 := Lib.hid j7; clear i7 j7
  go_enter Try.func3, Try.ntmps3
  go_wp2_with fail
  refine (I3.out _).mono ?_
  rintro e w1 ⟨rfl, hb1⟩
  have B1 : Below w.heap.size w w1 := bt (by (repeat' (first | (with_reducible exact Below.refl _ _) | (with_reducible assumption) | (with_reducible refine Below.alloc ?_ ?_ _) | (with_reducible refine Below.drew ?_) | (with_reducible refine below_dn ?_) | (with_reducible refine Below.setCell ?_ ?_ _) | (with_reducible exact Nat.le_refl _) | omega | (simp only [World.size_alloc, World.size_setCell, World.size_drew]; omega) | (simp; omega) | (simp; done)))) hb1
  have s1 : w.heap.size ≤ w1.heap.size := B1.size
  have z1_b : w.heap.size < w1.heap.size := by (have := hb1.size; (try simp at this); omega)
  have x1_b : w.heap.size ≤ w1.heap.size := Nat.le_of_lt z1_b
  have d1_b_0 : w1.cell? ⟨w.heap.size, 0, none⟩ = some (.int .i64 c) := keep (by go_cell) hb1
  have d1_b_1 : w1.cell? ⟨w.heap.size, 1, none⟩ = some (.int .i64 n) := keep (by go_cell) hb1
  have d1_b_2 : w1.cell? ⟨w.heap.size, 2, none⟩ = some (.int .i64 d) := keep (by go_cell) hb1
  have d1_b_3 : w1.cell? ⟨w.heap.size, 3, none⟩ = some (.int .i64 l) := keep (by go_cell) hb1
  have d1_b_4 : w1.cell? ⟨w.heap.size, 4, none⟩ = some (.int .i64 a) := keep (by go_cell) hb1
  clear hb1
  go_wp2_with fail
  refine (I4.out _).mono ?_
  rintro e w2 ⟨rfl, hb2⟩
  have B2 : Below w.heap.size w w2 := bt (by (repeat' (first | (with_reducible exact Below.refl _ _) | (with_reducible assumption) | (with_reducible refine Below.alloc ?_ ?_ _) | (with_reducible refine Below.drew ?_) | (with_reducible refine below_dn ?_) | (with_reducible refine Below.setCell ?_ ?_ _) | (with_reducible exact Nat.le_refl _) | omega | (simp only [World.size_alloc, World.size_setCell, World.size_drew]; omega) | (simp; omega) | (simp; done)))) hb2
  have s2 : w.heap.size ≤ w2.heap.size := B2.size
  have z2_b : w.heap.size < w2.heap.size := by (have := hb2.size; (try simp at this); omega)
  have x2_b : w.heap.size ≤ w2.heap.size := Nat.le_of_lt z2_b
  have d2_b_0 : w2.cell? ⟨w.heap.size, 0, none⟩ = some (.int .i64 c) := keep (by go_cell) hb2
  have d2_b_1 : w2.cell? ⟨w.heap.size, 1, none⟩ = some (.int .i64 n) := keep (by go_cell) hb2
  have d2_b_2 : w2.cell? ⟨w.heap.size, 2, none⟩ = some (.int .i64 d) := keep (by go_cell) hb2
  have d2_b_3 : w2.cell? ⟨w.heap.size, 3, none⟩ = some (.int .i64 l) := keep (by go_cell) hb2
  have d2_b_4 : w2.cell? ⟨w.heap.size, 4, none⟩ = some (.int .i64 a) := keep (by go_cell) hb2
  have z2_n : w1.heap.size < w2.heap.size := by (have := hb2.size; (try simp at this); omega)
  have x2_n : w1.heap.size ≤ w2.heap.size := Nat.le_of_lt z2_n
  have d2_n_0 : w2.cell? ⟨w1.heap.size, 0, none⟩ = some (.int .i64 nc) := keep (by go_cell) hb2
  have d2_n_1 : w2.cell? ⟨w1.heap.size, 1, none⟩ = some (.int .i64 nn) := keep (by go_cell) hb2
  have d2_n_2 : w2.cell? ⟨w1.heap.size, 2, none⟩ = some (.int .i64 nd) := keep (by go_cell) hb2
  have d2_n_3 : w2.cell? ⟨w1.heap.size, 3, none⟩ = some (.int .i64 nl) := keep (by go_cell) hb2
  have d2_n_4 : w2.cell? ⟨w1.heap.size, 4, none⟩ = some (.int .i64 na) := keep (by go_cell) hb2
  clear hb2 d1_b_0 d1_b_1 d1_b_2 d1_b_3 d1_b_4
  go_wp2_with fail
  refine (I5.out _).mono ?_
  rintro e w3 ⟨rfl, hb3⟩
  have B3 : Below w.heap.size w w3 := bt (by (repeat' (first | (with_reducible exact Below.refl _ _) | (with_reducible assumption) | (with_reducible refine Below.alloc ?_ ?_ _) | (with_reducible refine Below.drew ?_) | (with_reducible refine below_dn ?_) | (with_reducible refine Below.setCell ?_ ?_ _) | (with_reducible exact Nat.le_refl _) | omega | (simp only [World.size_alloc, World.size_setCell, World.size_drew]; omega) | (simp; omega) | (simp; done)))) hb3
  have s3 : w.heap.size ≤ w3.heap.size := B3.size
  have z3_b : w.heap.size < w3.heap.size := by (have := hb3.size; (try simp at this); omega)
  have x3_b : w.heap.size ≤ w3.heap.size := Nat.le_of_lt z3_b
  have d3_b_0 : w3.cell? ⟨w.heap.size, 0, none⟩ = some (.int .i64 c) := keep (by go_cell) hb3
  have d3_b_1 : w3.cell? ⟨w.heap.size, 1, none⟩ = some (.int .i64 n) := keep (by go_cell) hb3
  have d3_b_2 : w3.cell? ⟨w.heap.size, 2, none⟩ = some (.int .i64 d) := keep (by go_cell) hb3
  have d3_b_3 : w3.cell? ⟨w.heap.size, 3, none⟩ = some (.int .i64 l) := keep (by go_cell) hb3
  have d3_b_4 : w3.cell? ⟨w.heap.size, 4, none⟩ = some (.int .i64 a) := keep (by go_cell) hb3
  have z3_n : w1.heap.size < w3.heap.size := by (have := hb3.size; (try simp at this); omega)
  have x3_n : w1.heap.size ≤ w3.heap.size := Nat.le_of_lt z3_n
  have d3_n_0 : w3.cell? ⟨w1.heap.size, 0, none⟩ = some (.int .i64 nc) := keep (by go_cell) hb3
  have d3_n_1 : w3.cell? ⟨w1.heap.size, 1, none⟩ = some (.int .i64 nn) := keep (by go_cell) hb3
  have d3_n_2 : w3.cell? ⟨w1.heap.size, 2, none⟩ = some (.int .i64 nd) := keep (by go_cell) hb3
  have d3_n_3 : w3.cell? ⟨w1.heap.size, 3, none⟩ = some (.int .i64 nl) := keep (by go_cell) hb3
  have d3_n_4 : w3.cell? ⟨w1.heap.size, 4, none⟩ = some (.int .i64 na) := keep (by go_cell) hb3
  have z3_r : w2.heap.size < w3.heap.size := by (have := hb3.size; (try simp at this); omega)
  have x3_r : w2.heap.size ≤ w3.heap.size := Nat.le_of_lt z3_r
  have d3_r_0 : w3.cell? ⟨w2.heap.size, 0, none⟩ = some (.int .i64 rc) := keep (by go_cell) hb3
  have d3_r_1 : w3.cell? ⟨w2.heap.size, 1, none⟩ = some (.int .i64 rn) := keep (by go_cell) hb3
  have d3_r_2 : w3.cell? ⟨w2.heap.size, 2, none⟩ = some (.int .i64 rd) := keep (by go_cell) hb3
  have d3_r_3 : w3.cell? ⟨w2.heap.size, 3, none⟩ = some (.int .i64 rl) := keep (by go_cell) hb3
  have d3_r_4 : w3.cell? ⟨w2.heap.size, 4, none⟩ = some (.int .i64 ra) := keep (by go_cell) hb3
  clear hb3 d2_b_0 d2_b_1 d2_b_2 d2_b_3 d2_b_4 d2_n_0 d2_n_1 d2_n_2 d2_n_3 d2_n_4
  go_wp2_with fail
  refine (I6.out _).mono ?_
  rintro e w4 ⟨rfl, hb4⟩
  have B4 : Below w.heap.size w w4 := bt (by (repeat' (first | (with_reducible exact Below.refl _ _) | (with_reducible assumption) | (with_reducible refine Below.alloc ?_ ?_ _) | (with_reducible refine Below.drew ?_) | (with_reducible refine below_dn ?_) | (with_reducible refine Below.setCell ?_ ?_ _) | (with_reducible exact Nat.le_refl _) | omega | (simp only [World.size_alloc, World.size_setCell, World.size_drew]; omega) | (simp; omega) | (simp; done)))) hb4
  have s4 : w.heap.size ≤ w4.heap.size := B4.size
  have z4_b : w.heap.size < w4.heap.size := by (have := hb4.size; (try simp at this); omega)
  have x4_b : w.heap.size ≤ w4.heap.size := Nat.le_of_lt z4_b
  have d4_b_0 : w4.cell? ⟨w.heap.size, 0, none⟩ = some (.int .i64 c) := keep (by go_cell) hb4
  have d4_b_1 : w4.cell? ⟨w.heap.size, 1, none⟩ = some (.int .i64 n) := keep (by go_cell) hb4
  have d4_b_2 : w4.cell? ⟨w.heap.size, 2, none⟩ = some (.int .i64 d) := keep (by go_cell) hb4
  have d4_b_3 : w4.cell? ⟨w.heap.size, 3, none⟩ = some (.int .i64 l) := keep (by go_cell) hb4
  have d4_b_4 : w4.cell? ⟨w.heap.size, 4, none⟩ = some (.int .i64 a) := keep (by go_cell) hb4
  have z4_n : w1.heap.size < w4.heap.size := by (have := hb4.size; (try simp at this); omega)
  have x4_n : w1.heap.size ≤ w4.heap.size := Nat.le_of_lt z4_n
  have d4_n_0 : w4.cell? ⟨w1.heap.size, 0, none⟩ = some (.int .i64 nc) := keep (by go_cell) hb4
  have d4_n_1 : w4.cell? ⟨w1.heap.size, 1, none⟩ = some (.int .i64 nn) := keep (by go_cell) hb4
  have d4_n_2 : w4.cell? ⟨w1.heap.size, 2, none⟩ = some (.int .i64 nd) := keep (by go_cell) hb4
  have d4_n_3 : w4.cell? ⟨w1.heap.size, 3, none⟩ = some (.int .i64 nl) := keep (by go_cell) hb4
  have d4_n_4 : w4.cell? ⟨w1.heap.size, 4, none⟩ = some (.int .i64 na) := keep (by go_cell) hb4
  have z4_r : w2.heap.size < w4.heap.size := by (have := hb4.size; (try simp at this); omega)
  have x4_r : w2.heap.size ≤ w4.heap.size := Nat.le_of_lt z4_r
  have d4_r_0 : w4.cell? ⟨w2.heap.size, 0, none⟩ = some (.int .i64 rc) := keep (by go_cell) hb4
  have d4_r_1 : w4.cell? ⟨w2.heap.size, 1, none⟩ = some (.int .i64 rn) := keep (by go_cell) hb4
  have d4_r_2 : w4.cell? ⟨w2.heap.size, 2, none⟩ = some (.int .i64 rd) := keep (by go_cell) hb4
  have d4_r_3 : w4.cell? ⟨w2.heap.size, 3, none⟩ = some (.int .i64 rl) := keep (by go_cell) hb4
  have d4_r_4 : w4.cell? ⟨w2.heap.size, 4, none⟩ = some (.int .i64 ra) := keep (by go_cell) hb4
  have z4_t : w3.heap.size < w4.heap.size := by (have := hb4.size; (try simp at this); omega)
  have x4_t : w3.heap.size ≤ w4.heap.size := Nat.le_of_lt z4_t
  have d4_t_0 : w4.cell? ⟨w3.heap.size, 0, none⟩ = some (.int .i64 tc) := keep (by go_cell) hb4
  have d4_t_1 : w4.cell? ⟨w3.heap.size, 1, none⟩ = some (.int .i64 tn) := keep (by go_cell) hb4
  have d4_t_2 : w4.cell? ⟨w3.heap.size, 2, none⟩ = some (.int .i64 td) := keep (by go_cell) hb4
  have d4_t_3 : w4.cell? ⟨w3.heap.size, 3, none⟩ = some (.int .i64 tl) := keep (by go_cell) hb4
  have d4_t_4 : w4.cell? ⟨w3.heap.size, 4, none⟩ = some (.int .i64 ta) := keep (by go_cell) hb4
  clear hb4 d3_b_0 d3_b_1 d3_b_2 d3_b_3 d3_b_4 d3_n_0 d3_n_1 d3_n_2 d3_n_3 d3_n_4 d3_r_0 d3_r_1 d3_r_2 d3_r_3 d3_r_4
  go_wp2_with fail
  refine (I7.out _).mono ?_
  rintro e w5 ⟨rfl, hb5⟩
  have B5 : Below w.heap.size w w5 := bt (by (repeat' (first | (with_reducible exact Below.refl _ _) | (with_reducible assumption) | (with_reducible refine Below.alloc ?_ ?_ _) | (with_reducible refine Below.drew ?_) | (with_reducible refine below_dn ?_) | (with_reducible refine Below.setCell ?_ ?_ _) | (with_reducible exact Nat.le_refl _) | omega | (simp only [World.size_alloc, World.size_setCell, World.size_drew]; omega) | (simp; omega) | (simp; done)))) hb5
  have s5 : w.heap.size ≤ w5.heap.size := B5.size
  have z5_b : w.heap.size < w5.heap.size := by (have := hb5.size; (try simp at this); omega)
  have x5_b : w.heap.size ≤ w5.heap.size := Nat.le_of_lt z5_b
  have d5_b_0 : w5.cell? ⟨w.heap.size, 0, none⟩ = some (.int .i64 c) := keep (by go_cell) hb5
  have d5_b_1 : w5.cell? ⟨w.heap.size, 1, none⟩ = some (.int .i64 n) := keep (by go_cell) hb5
  have d5_b_2 : w5.cell? ⟨w.heap.size, 2, none⟩ = some (.int .i64 d) := keep (by go_cell) hb5
  have d5_b_3 : w5.cell? ⟨w.heap.size, 3, none⟩ = some (.int .i64 l) := keep (by go_cell) hb5
  have d5_b_4 : w5.cell? ⟨w.heap.size, 4, none⟩ = some (.int .i64 a) := keep (by go_cell) hb5
  have z5_n : w1.heap.size < w5.heap.size := by (have := hb5.size; (try simp at this); omega)
  have x5_n : w1.heap.size ≤ w5.heap.size := Nat.le_of_lt z5_n
  have d5_n_0 : w5.cell? ⟨w1.heap.size, 0, none⟩ = some (.int .i64 nc) := keep (by go_cell) hb5
  have d5_n_1 : w5.cell? ⟨w1.heap.size, 1, none⟩ = some (.int .i64 nn) := keep (by go_cell) hb5
  have d5_n_2 : w5.cell? ⟨w1.heap.size, 2, none⟩ = some (.int .i64 nd) := keep (by go_cell) hb5
  have d5_n_3 : w5.cell? ⟨w1.heap.size, 3, none⟩ = some (.int .i64 nl) := keep (by go_cell) hb5
  have d5_n_4 : w5.cell? ⟨w1.heap.size, 4, none⟩ = some (.int .i64 na) := keep (by go_cell) hb5
  have z5_r : w2.heap.size < w5.heap.size := by (have := hb5.size; (try simp at this); omega)
  have x5_r : w2.heap.size ≤ w5.heap.size := Nat.le_of_lt z5_r
  have d5_r_0 : w5.cell? ⟨w2.heap.size, 0, none⟩ = some (.int .i64 rc) := keep (by go_cell) hb5
  have d5_r_1 : w5.cell? ⟨w2.heap.size, 1, none⟩ = some (.int .i64 rn) := keep (by go_cell) hb5
  have d5_r_2 : w5.cell? ⟨w2.heap.size, 2, none⟩ = some (.int .i64 rd) := keep (by go_cell) hb5
  have d5_r_3 : w5.cell? ⟨w2.heap.size, 3, none⟩ = some (.int .i64 rl) := keep (by go_cell) hb5
  have d5_r_4 : w5.cell? ⟨w2.heap.size, 4, none⟩ = some (.int .i64 ra) := keep (by go_cell) hb5
  have z5_t : w3.heap.size < w5.heap.size := by (have := hb5.size; (try simp at this); omega)
  have x5_t : w3.heap.size ≤ w5.heap.size := Nat.le_of_lt z5_t
  have d5_t_0 : w5.cell? ⟨w3.heap.size, 0, none⟩ = some (.int .i64 tc) := keep (by go_cell) hb5
  have d5_t_1 : w5.cell? ⟨w3.heap.size, 1, none⟩ = some (.int .i64 tn) := keep (by go_cell) hb5
  have d5_t_2 : w5.cell? ⟨w3.heap.size, 2, none⟩ = some (.int .i64 td) := keep (by go_cell) hb5
  have d5_t_3 : w5.cell? ⟨w3.heap.size, 3, none⟩ = some (.int .i64 tl) := keep (by go_cell) hb5
  have d5_t_4 : w5.cell? ⟨w3.heap.size, 4, none⟩ = some (.int .i64 ta) := keep (by go_cell) hb5
  clear hb5 d4_b_0 d4_b_1 d4_b_2 d4_b_3 d4_b_4 d4_n_0 d4_n_1 d4_n_2 d4_n_3 d4_n_4 d4_r_0 d4_r_1 d4_r_2 d4_r_3 d4_r_4 d4_t_0 d4_t_1 d4_t_2 d4_t_3 d4_t_4
  go_wp2_with fail
  refine (J3.out _).mono ?_
  rintro e w6 ⟨rfl, hb6⟩
  have B6 : Below w.heap.size w w6 := bt (by (repeat' (first | (with_reducible exact Below.refl _ _) | (with_reducible assumption) | (with_reducible refine Below.alloc ?_ ?_ _) | (with_reducible refine Below.drew ?_) | (with_reducible refine below_dn ?_) | (with_reducible refine Below.setCell ?_ ?_ _) | (with_reducible exact Nat.le_refl _) | omega | (simp only [World.size_alloc, World.size_setCell, World.size_drew]; omega) | (simp; omega) | (simp; done)))) hb6
  have s6 : w.heap.size ≤ w6.heap.size := B6.size
  have z6_b : w.heap.size < w6.heap.size := by (have := hb6.size; (try simp at this); omega)
  have x6_b : w.heap.size ≤ w6.heap.size := Nat.le_of_lt z6_b
  have d6_b_0 : w6.cell? ⟨w.heap.size, 0, none⟩ = some (.int .i64 c) := keep (by go_cell) hb6
  have d6_b_1 : w6.cell? ⟨w.heap.size, 1, none⟩ = some (.int .i64 n) := keep (by go_cell) hb6
  have d6_b_2 : w6.cell? ⟨w.heap.size, 2, none⟩ = some (.int .i64 d) := keep (by go_cell) hb6
  have d6_b_3 : w6.cell? ⟨w.heap.size, 3, none⟩ = some (.int .i64 l) := keep (by go_cell) hb6
  have d6_b_4 : w6.cell? ⟨w.heap.size, 4, none⟩ = some (.int .i64 a) := keep (by go_cell) hb6
  have z6_n : w1.heap.size < w6.heap.size := by (have := hb6.size; (try simp at this); omega)
  have x6_n : w1.heap.size ≤ w6.heap.size := Nat.le_of_lt z6_n
  have d6_n_0 : w6.cell? ⟨w1.heap.size, 0, none⟩ = some (.int .i64 nc) := keep (by go_cell) hb6
  have d6_n_1 : w6.cell? ⟨w1.heap.size, 1, none⟩ = some (.int .i64 nn) := keep (by go_cell) hb6
  have d6_n_2 : w6.cell? ⟨w1.heap.size, 2, none⟩ = some (.int .i64 nd) := keep (by go_cell) hb6
  have d6_n_3 : w6.cell? ⟨w1.heap.size, 3, none⟩ = some (.int .i64 nl) := keep (by go_cell) hb6
  have d6_n_4 : w6.cell? ⟨w1.heap.size, 4, none⟩ = some (.int .i64 na) := keep (by go_cell) hb6
  have z6_r : w2.heap.size < w6.heap.size := by (have := hb6.size; (try simp at this); omega)
  have x6_r : w2.heap.size ≤ w6.heap.size := Nat.le_of_lt z6_r
  have d6_r_0 : w6.cell? ⟨w2.heap.size, 0, none⟩ = some (.int .i64 rc) := keep (by go_cell) hb6
  have d6_r_1 : w6.cell? ⟨w2.heap.size, 1, none⟩ = some (.int .i64 rn) := keep (by go_cell) hb6
  have d6_r_2 : w6.cell? ⟨w2.heap.size, 2, none⟩ = some (.int .i64 rd) := keep (by go_cell) hb6
  have d6_r_3 : w6.cell? ⟨w2.heap.size, 3, none⟩ = some (.int .i64 rl) := keep (by go_cell) hb6
  have d6_r_4 : w6.cell? ⟨w2.heap.size, 4, none⟩ = some (.int .i64 ra) := keep (by go_cell) hb6
  have z6_t : w3.heap.size < w6.heap.size := by (have := hb6.size; (try simp at this); omega)
  have x6_t : w3.heap.size ≤ w6.heap.size := Nat.le_of_lt z6_t
  have d6_t_0 : w6.cell? ⟨w3.heap.size, 0, none⟩ = some (.int .i64 tc) := keep (by go_cell) hb6
  have d6_t_1 : w6.cell? ⟨w3.heap.size, 1, none⟩ = some (.int .i64 tn) := keep (by go_cell) hb6
  have d6_t_2 : w6.cell? ⟨w3.heap.size, 2, none⟩ = some (.int .i64 td) := keep (by go_cell) hb6
  have d6_t_3 : w6.cell? ⟨w3.heap.size, 3, none⟩ = some (.int .i64 tl) := keep (by go_cell) hb6
  have d6_t_4 : w6.cell? ⟨w3.heap.size, 4, none⟩ = some (.int .i64 ta) := keep (by go_cell) hb6
  clear hb6 d5_b_0 d5_b_1 d5_b_2 d5_b_3 d5_b_4 d5_n_0 d5_n_1 d5_n_2 d5_n_3 d5_n_4 d5_r_0 d5_r_1 d5_r_2 d5_r_3 d5_r_4 d5_t_0 d5_t_1 d5_t_2 d5_t_3 d5_t_4
  go_wp2_with fail
  refine (J4.out _).mono ?_
  rintro e w7 ⟨rfl, hb7⟩
  have B7 : Below w.heap.size w w7 := bt (by (repeat' (first | (with_reducible exact Below.refl _ _) | (with_reducible assumption) | (with_reducible refine Below.alloc ?_ ?_ _) | (with_reducible refine Below.drew ?_) | (with_reducible refine below_dn ?_) | (with_reducible refine Below.setCell ?_ ?_ _) | (with_reducible exact Nat.le_refl _) | omega | (simp only [World.size_alloc, World.size_setCell, World.size_drew]; omega) | (simp; omega) | (simp; done)))) hb7
  have s7 : w.heap.size ≤ w7.heap.size := B7.size
  have z7_b : w.heap.size < w7.heap.size := by (have := hb7.size; (try simp at this); omega)
  have x7_b : w.heap.size ≤ w7.heap.size := Nat.le_of_lt z7_b
  have d7_b_0 : w7.cell? ⟨w.heap.size, 0, none⟩ = some (.int .i64 c) := keep (by go_cell) hb7
  have d7_b_1 : w7.cell? ⟨w.heap.size, 1, none⟩ = some (.int .i64 n) := keep (by go_cell) hb7
  have d7_b_2 : w7.cell? ⟨w.heap.size, 2, none⟩ = some (.int .i64 d) := keep (by go_cell) hb7
  have d7_b_3 : w7.cell? ⟨w.heap.size, 3, none⟩ = some (.int .i64 l) := keep (by go_cell) hb7
  have d7_b_4 : w7.cell? ⟨w.heap.size, 4, none⟩ = some (.int .i64 a) := keep (by go_cell) hb7
  have z7_n : w1.heap.size < w7.heap.size := by (have := hb7.size; (try simp at this); omega)
  have x7_n : w1.heap.size ≤ w7.heap.size := Nat.le_of_lt z7_n
  have d7_n_0 : w7.cell? ⟨w1.heap.size, 0, none⟩ = some (.int .i64 nc) := keep (by go_cell) hb7
  have d7_n_1 : w7.cell? ⟨w1.heap.size, 1, none⟩ = some (.int .i64 nn) := keep (by go_cell) hb7
  have d7_n_2 : w7.cell? ⟨w1.heap.size, 2, none⟩ = some (.int .i64 nd) := keep (by go_cell) hb7
  have d7_n_3 : w7.cell? ⟨w1.heap.size, 3, none⟩ = some (.int .i64 nl) := keep (by go_cell) hb7
  have d7_n_4 : w7.cell? ⟨w1.heap.size, 4, none⟩ = some (.int .i64 na) := keep (by go_cell) hb7
  have z7_r : w2.heap.size < w7.heap.size := by (have := hb7.size; (try simp at this); omega)
  have x7_r : w2.heap.size ≤ w7.heap.size := Nat.le_of_lt z7_r
  have d7_r_0 : w7.cell? ⟨w2.heap.size, 0, none⟩ = some (.int .i64 rc) := keep (by go_cell) hb7
  have d7_r_1 : w7.cell? ⟨w2.heap.size, 1, none⟩ = some (.int .i64 rn) := keep (by go_cell) hb7
  have d7_r_2 : w7.cell? ⟨w2.heap.size, 2, none⟩ = some (.int .i64 rd) := keep (by go_cell) hb7
  have d7_r_3 : w7.cell? ⟨w2.heap.size, 3, none⟩ = some (.int .i64 rl) := keep (by go_cell) hb7
  have d7_r_4 : w7.cell? ⟨w2.heap.size, 4, none⟩ = some (.int .i64 ra) := keep (by go_cell) hb7
  have z7_t : w3.heap.size < w7.heap.size := by (have := hb7.size; (try simp at this); omega)
  have x7_t : w3.heap.size ≤ w7.heap.size := Nat.le_of_lt z7_t
  have d7_t_0 : w7.cell? ⟨w3.heap.size, 0, none⟩ = some (.int .i64 tc) := keep (by go_cell) hb7
  have d7_t_1 : w7.cell? ⟨w3.heap.size, 1, none⟩ = some (.int .i64 tn) := keep (by go_cell) hb7
  have d7_t_2 : w7.cell? ⟨w3.heap.size, 2, none⟩ = some (.int .i64 td) := keep (by go_cell) hb7
  have d7_t_3 : w7.cell? ⟨w3.heap.size, 3, none⟩ = some (.int .i64 tl) := keep (by go_cell) hb7
  have d7_t_4 : w7.cell? ⟨w3.heap.size, 4, none⟩ = some (.int .i64 ta) := keep (by go_cell) hb7
  have z7_n2 : w6.heap.size < w7.heap.size := by (have := hb7.size; (try simp at this); omega)
  have x7_n2 : w6.heap.size ≤ w7.heap.size := Nat.le_of_lt z7_n2
  have d7_n2_0 : w7.cell? ⟨w6.heap.size, 0, none⟩ = some (.int .i64 nc) := keep (by go_cell) hb7
  have d7_n2_1 : w7.cell? ⟨w6.heap.size, 1, none⟩ = some (.int .i64 nn) := keep (by go_cell) hb7
  have d7_n2_2 : w7.cell? ⟨w6.heap.size, 2, none⟩ = some (.int .i64 nd) := keep (by go_cell) hb7
  have d7_n2_3 : w7.cell? ⟨w6.heap.size, 3, none⟩ = some (.int .i64 nl) := keep (by go_cell) hb7
  have d7_n2_4 : w7.cell? ⟨w6.heap.size, 4, none⟩ = some (.int .i64 na) := keep (by go_cell) hb7
  have d7_n2_5 : w7.cell? ⟨w6.heap.size, 5, none⟩ = some (.int .i64 ne) := keep (by go_cell) hb7
  clear hb7 d6_b_0 d6_b_1 d6_b_2 d6_b_3 d6_b_4 d6_n_0 d6_n_1 d6_n_2 d6_n_3 d6_n_4 d6_r_0 d6_r_1 d6_r_2 d6_r_3 d6_r_4 d6_t_0 d6_t_1 d6_t_2 d6_t_3 d6_t_4
  go_wp2_with fail
  refine (J5.out _).mono ?_
  rintro e w8 ⟨rfl, hb8⟩
  have B8 : Below w.heap.size w w8 := bt (by (repeat' (first | (with_reducible exact Below.refl _ _) | (with_reducible assumption) | (with_reducible refine Below.alloc ?_ ?_ _) | (with_reducible refine Below.drew ?_) | (with_reducible refine below_dn ?_) | (with_reducible refine Below.setCell ?_ ?_ _) | (with_reducible exact Nat.le_refl _) | omega | (simp only [World.size_alloc, World.size_setCell, World.size_drew]; omega) | (simp; omega) | (simp; done)))) hb8
  have s8 : w.heap.size ≤ w8.heap.size := B8.size
  have z8_b : w.heap.size < w8.heap.size := by (have := hb8.size; (try simp at this); omega)
  have x8_b : w.heap.size ≤ w8.heap.size := Nat.le_of_lt z8_b
  have d8_b_0 : w8.cell? ⟨w.heap.size, 0, none⟩ = some (.int .i64 c) := keep (by go_cell) hb8
  have d8_b_1 : w8.cell? ⟨w.heap.size, 1, none⟩ = some (.int .i64 n) := keep (by go_cell) hb8
  have d8_b_2 : w8.cell? ⟨w.heap.size, 2, none⟩ = some (.int .i64 d) := keep (by go_cell) hb8
  have d8_b_3 : w8.cell? ⟨w.heap.size, 3, none⟩ = some (.int .i64 l) := keep (by go_cell) hb8
  have d8_b_4 : w8.cell? ⟨w.heap.size, 4, none⟩ = some (.int .i64 a) := keep (by go_cell) hb8
  have z8_n : w1.heap.size < w8.heap.size := by (have := hb8.size; (try simp at this); omega)
  have x8_n : w1.heap.size ≤ w8.heap.size := Nat.le_of_lt z8_n
  have d8_n_0 : w8.cell? ⟨w1.heap.size, 0, none⟩ = some (.int .i64 nc) := keep (by go_cell) hb8
  have d8_n_1 : w8.cell? ⟨w1.heap.size, 1, none⟩ = some (.int .i64 nn) := keep (by go_cell) hb8
  have d8_n_2 : w8.cell? ⟨w1.heap.size, 2, none⟩ = some (.int .i64 nd) := keep (by go_cell) hb8
  have d8_n_3 : w8.cell? ⟨w1.heap.size, 3, none⟩ = some (.int .i64 nl) := keep (by go_cell) hb8
  have d8_n_4 : w8.cell? ⟨w1.heap.size, 4, none⟩ = some (.int .i64 na) := keep (by go_cell) hb8
  have z8_r : w2.heap.size < w8.heap.size := by (have := hb8.size; (try simp at this); omega)
  have x8_r : w2.heap.size ≤ w8.heap.size := Nat.le_of_lt z8_r
  have d8_r_0 : w8.cell? ⟨w2.heap.size, 0, none⟩ = some (.int .i64 rc) := keep (by go_cell) hb8
  have d8_r_1 : w8.cell? ⟨w2.heap.size, 1, none⟩ = some (.int .i64 rn) := keep (by go_cell) hb8
  have d8_r_2 : w8.cell? ⟨w2.heap.size, 2, none⟩ = some (.int .i64 rd) := keep (by go_cell) hb8
  have d8_r_3 : w8.cell? ⟨w2.heap.size, 3, none⟩ = some (.int .i64 rl) := keep (by go_cell) hb8
  have d8_r_4 : w8.cell? ⟨w2.heap.size, 4, none⟩ = some (.int .i64 ra) := keep (by go_cell) hb8
  have z8_t : w3.heap.size < w8.heap.size := by (have := hb8.size; (try simp at this); omega)
  have x8_t : w3.heap.size ≤ w8.heap.size := Nat.le_of_lt z8_t
  have d8_t_0 : w8.cell? ⟨w3.heap.size, 0, none⟩ = some (.int .i64 tc) := keep (by go_cell) hb8
  have d8_t_1 : w8.cell? ⟨w3.heap.size, 1, none⟩ = some (.int .i64 tn) := keep (by go_cell) hb8
  have d8_t_2 : w8.cell? ⟨w3.heap.size, 2, none⟩ = some (.int .i64 td) := keep (by go_cell) hb8
  have d8_t_3 : w8.cell? ⟨w3.heap.size, 3, none⟩ = some (.int .i64 tl) := keep (by go_cell) hb8
  have d8_t_4 : w8.cell? ⟨w3.heap.size, 4, none⟩ = some (.int .i64 ta) := keep (by go_cell) hb8
  have z8_n2 : w6.heap.size < w8.heap.size := by (have := hb8.size; (try simp at this); omega)
  have x8_n2 : w6.heap.size ≤ w8.heap.size := Nat.le_of_lt z8_n2
  have d8_n2_0 : w8.cell? ⟨w6.heap.size, 0, none⟩ = some (.int .i64 nc) := keep (by go_cell) hb8
  have d8_n2_1 : w8.cell? ⟨w6.heap.size, 1, none⟩ = some (.int .i64 nn) := keep (by go_cell) hb8
  have d8_n2_2 : w8.cell? ⟨w6.heap.size, 2, none⟩ = some (.int .i64 nd) := keep (by go_cell) hb8
  have d8_n2_3 : w8.cell? ⟨w6.heap.size, 3, none⟩ = some (.int .i64 nl) := keep (by go_cell) hb8
  have d8_n2_4 : w8.cell? ⟨w6.heap.size, 4, none⟩ = some (.int .i64 na) := keep (by go_cell) hb8
  have d8_n2_5 : w8.cell? ⟨w6.heap.size, 5, none⟩ = some (.int .i64 ne) := keep (by go_cell) hb8
  have z8_r2 : w7.heap.size < w8.heap.size := by (have := hb8.size; (try simp at this); omega)
  have x8_r2 : w7.heap.size ≤ w8.heap.size := Nat.le_of_lt z8_r2
  have d8_r2_0 : w8.cell? ⟨w7.heap.size, 0, none⟩ = some (.int .i64 rc) := keep (by go_cell) hb8
  have d8_r2_1 : w8.cell? ⟨w7.heap.size, 1, none⟩ = some (.int .i64 rn) := keep (by go_cell) hb8
  have d8_r2_2 : w8.cell? ⟨w7.heap.size, 2, none⟩ = some (.int .i64 rd) := keep (by go_cell) hb8
  have d8_r2_3 : w8.cell? ⟨w7.heap.size, 3, none⟩ = some (.int .i64 rl) := keep (by go_cell) hb8
  have d8_r2_4 : w8.cell? ⟨w7.heap.size, 4, none⟩ = some (.int .i64 ra) := keep (by go_cell) hb8
  have d8_r2_5 : w8.cell? ⟨w7.heap.size, 5, none⟩ = some (.int .i64 re) := keep (by go_cell) hb8
  clear hb8 d7_b_0 d7_b_1 d7_b_2 d7_b_3 d7_b_4 d7_n_0 d7_n_1 d7_n_2 d7_n_3 d7_n_4 d7_r_0 d7_r_1 d7_r_2 d7_r_3 d7_r_4 d7_t_0 d7_t_1 d7_t_2 d7_t_3 d7_t_4 d7_n2_0 d7_n2_1 d7_n2_2 d7_n2_3 d7_n2_4 d7_n2_5
  go_wp2_with fail
  refine (J6.out _).mono ?_
  rintro e w9 ⟨rfl, hb9⟩
  have B9 : Below w.heap.size w w9 := bt (by (repeat' (first | (with_reducible exact Below.refl _ _) | (with_reducible assumption) | (with_reducible refine Below.alloc ?_ ?_ _) | (with_reducible refine Below.drew ?_) | (with_reducible refine below_dn ?_) | (with_reducible refine Below.setCell ?_ ?_ _) | (with_reducible exact Nat.le_refl _) | omega | (simp only [World.size_alloc, World.size_setCell, World.size_drew]; omega) | (simp; omega) | (simp; done)))) hb9
  have s9 : w.heap.size ≤ w9.heap.size := B9.size
  have z9_b : w.heap.size < w9.heap.size := by (have := hb9.size; (try simp at this); omega)
  have x9_b : w.heap.size ≤ w9.heap.size := Nat.le_of_lt z9_b
  have d9_b_0 : w9.cell? ⟨w.heap.size, 0, none⟩ = some (.int .i64 c) := keep (by go_cell) hb9
  have d9_b_1 : w9.cell? ⟨w.heap.size, 1, none⟩ = some (.int .i64 n) := keep (by go_cell) hb9
  have d9_b_2 : w9.cell? ⟨w.heap.size, 2, none⟩ = some (.int .i64 d) := keep (by go_cell) hb9
  have d9_b_3 : w9.cell? ⟨w.heap.size, 3, none⟩ = some (.int .i64 l) := keep (by go_cell) hb9
  have d9_b_4 : w9.cell? ⟨w.heap.size, 4, none⟩ = some (.int .i64 a) := keep (by go_cell) hb9
  have z9_n : w1.heap.size < w9.heap.size := by (have := hb9.size; (try simp at this); omega)
  have x9_n : w1.heap.size ≤ w9.heap.size := Nat.le_of_lt z9_n
  have d9_n_0 : w9.cell? ⟨w1.heap.size, 0, none⟩ = some (.int .i64 nc) := keep (by go_cell) hb9
  have d9_n_1 : w9.cell? ⟨w1.heap.size, 1, none⟩ = some (.int .i64 nn) := keep (by go_cell) hb9
  have d9_n_2 : w9.cell? ⟨w1.heap.size, 2, none⟩ = some (.int .i64 nd) := keep (by go_cell) hb9
  have d9_n_3 : w9.cell? ⟨w1.heap.size, 3, none⟩ = some (.int .i64 nl) := keep (by go_cell) hb9
  have d9_n_4 : w9.cell? ⟨w1.heap.size, 4, none⟩ = some (.int .i64 na) := keep (by go_cell) hb9
  have z9_r : w2.heap.size < w9.heap.size := by (have := hb9.size; (try simp at this); omega)
  have x9_r : w2.heap.size ≤ w9.heap.size := Nat.le_of_lt z9_r
  have d9_r_0 : w9.cell? ⟨w2.heap.size, 0, none⟩ = some (.int .i64 rc) := keep (by go_cell) hb9
  have d9_r_1 : w9.cell? ⟨w2.heap.size, 1, none⟩ = some (.int .i64 rn) := keep (by go_cell) hb9
  have d9_r_2 : w9.cell? ⟨w2.heap.size, 2, none⟩ = some (.int .i64 rd) := keep (by go_cell) hb9
  have d9_r_3 : w9.cell? ⟨w2.heap.size, 3, none⟩ = some (.int .i64 rl) := keep (by go_cell) hb9
  have d9_r_4 : w9.cell? ⟨w2.heap.size, 4, none⟩ = some (.int .i64 ra) := keep (by go_cell) hb9
  have z9_t : w3.heap.size < w9.heap.size := by (have := hb9.size; (try simp at this); omega)
  have x9_t : w3.heap.size ≤ w9.heap.size := Nat.le_of_lt z9_t
  have d9_t_0 : w9.cell? ⟨w3.heap.size, 0, none⟩ = some (.int .i64 tc) := keep (by go_cell) hb9
  have d9_t_1 : w9.cell? ⟨w3.heap.size, 1, none⟩ = some (.int .i64 tn) := keep (by go_cell) hb9
  have d9_t_2 : w9.cell? ⟨w3.heap.size, 2, none⟩ = some (.int .i64 td) := keep (by go_cell) hb9
  have d9_t_3 : w9.cell? ⟨w3.heap.size, 3, none⟩ = some (.int .i64 tl) := keep (by go_cell) hb9
  have d9_t_4 : w9.cell? ⟨w3.heap.size, 4, none⟩ = some (.int .i64 ta) := keep (by go_cell) hb9
  have z9_n2 : w6.heap.size < w9.heap.size := by (have := hb9.size; (try simp at this); omega)
  have x9_n2 : w6.heap.size ≤ w9.heap.size := Nat.le_of_lt z9_n2
  have d9_n2_0 : w9.cell? ⟨w6.heap.size, 0, none⟩ = some (.int .i64 nc) := keep (by go_cell) hb9
  have d9_n2_1 : w9.cell? ⟨w6.heap.size, 1, none⟩ = some (.int .i64 nn) := keep (by go_cell) hb9
  have d9_n2_2 : w9.cell? ⟨w6.heap.size, 2, none⟩ = some (.int .i64 nd) := keep (by go_cell) hb9
  have d9_n2_3 : w9.cell? ⟨w6.heap.size, 3, none⟩ = some (.int .i64 nl) := keep (by go_cell) hb9
  have d9_n2_4 : w9.cell? ⟨w6.heap.size, 4, none⟩ = some (.int .i64 na) := keep (by go_cell) hb9
  have d9_n2_5 : w9.cell? ⟨w6.heap.size, 5, none⟩ = some (.int .i64 ne) := keep (by go_cell) hb9
  have z9_r2 : w7.heap.size < w9.heap.size := by (have := hb9.size; (try simp at this); omega)
  have x9_r2 : w7.heap.size ≤ w9.heap.size := Nat.le_of_lt z9_r2
  have d9_r2_0 : w9.cell? ⟨w7.heap.size, 0, none⟩ = some (.int .i64 rc) := keep (by go_cell) hb9
  have d9_r2_1 : w9.cell? ⟨w7.heap.size, 1, none⟩ = some (.int .i64 rn) := keep (by go_cell) hb9
  have d9_r2_2 : w9.cell? ⟨w7.heap.size, 2, none⟩ = some (.int .i64 rd) := keep (by go_cell) hb9
  have d9_r2_3 : w9.cell? ⟨w7.heap.size, 3, none⟩ = some (.int .i64 rl) := keep (by go_cell) hb9
  have d9_r2_4 : w9.cell? ⟨w7.heap.size, 4, none⟩ = some (.int .i64 ra) := keep (by go_cell) hb9
  have d9_r2_5 : w9.cell? ⟨w7.heap.size, 5, none⟩ = some (.int .i64 re) := keep (by go_cell) hb9
  have z9_t2 : w8.heap.size < w9.heap.size := by (have := hb9.size; (try simp at this); omega)
  have x9_t2 : w8.heap.size ≤ w9.heap.size := Nat.le_of_lt z9_t2
  have d9_t2_0 : w9.cell? ⟨w8.heap.size, 0, none⟩ = some (.int .i64 tc) := keep (by go_cell) hb9
  have d9_t2_1 : w9.cell? ⟨w8.heap.size, 1, none⟩ = some (.int .i64 tn) := keep (by go_cell) hb9
  have d9_t2_2 : w9.cell? ⟨w8.heap.size, 2, none⟩ = some (.int .i64 td) := keep (by go_cell) hb9
  have d9_t2_3 : w9.cell? ⟨w8.heap.size, 3, none⟩ = some (.int .i64 tl) := keep (by go_cell) hb9
  have d9_t2_4 : w9.cell? ⟨w8.heap.size, 4, none⟩ = some (.int .i64 ta) := keep (by go_cell) hb9
  have d9_t2_5 : w9.cell? ⟨w8.heap.size, 5, none⟩ = some (.int .i64 te) := keep (by go_cell) hb9
  clear hb9 d8_b_0 d8_b_1 d8_b_2 d8_b_3 d8_b_4 d8_n_0 d8_n_1 d8_n_2 d8_n_3 d8_n_4 d8_r_0 d8_r_1 d8_r_2 d8_r_3 d8_r_4 d8_t_0 d8_t_1 d8_t_2 d8_t_3 d8_t_4 d8_n2_0 d8_n2_1 d8_n2_2 d8_n2_3 d8_n2_4 d8_n2_5 d8_r2_0 d8_r2_1 d8_r2_2 d8_r2_3 d8_r2_4 d8_r2_5
  go_wp2_with fail
  refine (J7.out _).mono ?_
  rintro e w10 ⟨rfl, hb10⟩
  have B10 : Below w.heap.size w w10 := bt (by (repeat' (first | (with_reducible exact Below.refl _ _) | (with_reducible assumption) | (with_reducible refine Below.alloc ?_ ?_ _) | (with_reducible refine Below.drew ?_) | (with_reducible refine below_dn ?_) | (with_reducible refine Below.setCell ?_ ?_ _) | (with_reducible exact Nat.le_refl _) | omega | (simp only [World.size_alloc, World.size_setCell, World.size_drew]; omega) | (simp; omega) | (simp; done)))) hb10
  have s10 : w.heap.size ≤ w10.heap.size := B10.size
  have z10_b : w.heap.size < w10.heap.size := by (have := hb10.size; (try simp at this); omega)
  have x10_b : w.heap.size ≤ w10.heap.size := Nat.le_of_lt z10_b
  have d10_b_0 : w10.cell? ⟨w.heap.size, 0, none⟩ = some (.int .i64 c) := keep (by go_cell) hb10
  have d10_b_1 : w10.cell? ⟨w.heap.size, 1, none⟩ = some (.int .i64 n) := keep (by go_cell) hb10
  have d10_b_2 : w10.cell? ⟨w.heap.size, 2, none⟩ = some (.int .i64 d) := keep (by go_cell) hb10
  have d10_b_3 : w10.cell? ⟨w.heap.size, 3, none⟩ = some (.int .i64 l) := keep (by go_cell) hb10
  have d10_b_4 : w10.cell? ⟨w.heap.size, 4, none⟩ = some (.int .i64 a) := keep (by go_cell) hb10
  have z10_n : w1.heap.size < w10.heap.size := by (have := hb10.size; (try simp at this); omega)
  have x10_n : w1.heap.size ≤ w10.heap.size := Nat.le_of_lt z10_n
  have d10_n_0 : w10.cell? ⟨w1.heap.size, 0, none⟩ = some (.int .i64 nc) := keep (by go_cell) hb10
  have d10_n_1 : w10.cell? ⟨w1.heap.size, 1, none⟩ = some (.int .i64 nn) := keep (by go_cell) hb10
  have d10_n_2 : w10.cell? ⟨w1.heap.size, 2, none⟩ = some (.int .i64 nd) := keep (by go_cell) hb10
  have d10_n_3 : w10.cell? ⟨w1.heap.size, 3, none⟩ = some (.int .i64 nl) := keep (by go_cell) hb10
  have d10_n_4 : w10.cell? ⟨w1.heap.size, 4, none⟩ = some (.int .i64 na) := keep (by go_cell) hb10
  have z10_r : w2.heap.size < w10.heap.size := by (have := hb10.size; (try simp at this); omega)
  have x10_r : w2.heap.size ≤ w10.heap.size := Nat.le_of_lt z10_r
  have d10_r_0 : w10.cell? ⟨w2.heap.size, 0, none⟩ = some (.int .i64 rc) := keep (by go_cell) hb10
  have d10_r_1 : w10.cell? ⟨w2.heap.size, 1, none⟩ = some (.int .i64 rn) := keep (by go_cell) hb10
  have d10_r_2 : w10.cell? ⟨w2.heap.size, 2, none⟩ = some (.int .i64 rd) := keep (by go_cell) hb10
  have d10_r_3 : w10.cell? ⟨w2.heap.size, 3, none⟩ = some (.int .i64 rl) := keep (by go_cell) hb10
  have d10_r_4 : w10.cell? ⟨w2.heap.size, 4, none⟩ = some (.int .i64 ra) := keep (by go_cell) hb10
  have z10_t : w3.heap.size < w10.heap.size := by (have := hb10.size; (try simp at this); omega)
  have x10_t : w3.heap.size ≤ w10.heap.size := Nat.le_of_lt z10_t
  have d10_t_0 : w10.cell? ⟨w3.heap.size, 0, none⟩ = some (.int .i64 tc) := keep (by go_cell) hb10
  have d10_t_1 : w10.cell? ⟨w3.heap.size, 1, none⟩ = some (.int .i64 tn) := keep (by go_cell) hb10
  have d10_t_2 : w10.cell? ⟨w3.heap.size, 2, none⟩ = some (.int .i64 td) := keep (by go_cell) hb10
  have d10_t_3 : w10.cell? ⟨w3.heap.size, 3, none⟩ = some (.int .i64 tl) := keep (by go_cell) hb10
  have d10_t_4 : w10.cell? ⟨w3.heap.size, 4, none⟩ = some (.int .i64 ta) := keep (by go_cell) hb10
  have z10_n2 : w6.heap.size < w10.heap.size := by (have := hb10.size; (try simp at this); omega)
  have x10_n2 : w6.heap.size ≤ w10.heap.size := Nat.le_of_lt z10_n2
  have d10_n2_0 : w10.cell? ⟨w6.heap.size, 0, none⟩ = some (.int .i64 nc) := keep (by go_cell) hb10
  have d10_n2_1 : w10.cell? ⟨w6.heap.size, 1, none⟩ = some (.int .i64 nn) := keep (by go_cell) hb10
  have d10_n2_2 : w10.cell? ⟨w6.heap.size, 2, none⟩ = some (.int .i64 nd) := keep (by go_cell) hb10
  have d10_n2_3 : w10.cell? ⟨w6.heap.size, 3, none⟩ = some (.int .i64 nl) := keep (by go_cell) hb10
  have d10_n2_4 : w10.cell? ⟨w6.heap.size, 4, none⟩ = some (.int .i64 na) := keep (by go_cell) hb10
  have d10_n2_5 : w10.cell? ⟨w6.heap.size, 5, none⟩ = some (.int .i64 ne) := keep (by go_cell) hb10
  have z10_r2 : w7.heap.size < w10.heap.size := by (have := hb10.size; (try simp at this); omega)
  have x10_r2 : w7.heap.size ≤ w10.heap.size := Nat.le_of_lt z10_r2
  have d10_r2_0 : w10.cell? ⟨w7.heap.size, 0, none⟩ = some (.int .i64 rc) := keep (by go_cell) hb10
  have d10_r2_1 : w10.cell? ⟨w7.heap.size, 1, none⟩ = some (.int .i64 rn) := keep (by go_cell) hb10
  have d10_r2_2 : w10.cell? ⟨w7.heap.size, 2, none⟩ = some (.int .i64 rd) := keep (by go_cell) hb10
  have d10_r2_3 : w10.cell? ⟨w7.heap.size, 3, none⟩ = some (.int .i64 rl) := keep (by go_cell) hb10
  have d10_r2_4 : w10.cell? ⟨w7.heap.size, 4, none⟩ = some (.int .i64 ra) := keep (by go_cell) hb10
  have d10_r2_5 : w10.cell? ⟨w7.heap.size, 5, none⟩ = some (.int .i64 re) := keep (by go_cell) hb10
  have z10_t2 : w8.heap.size < w10.heap.size := by (have := hb10.size; (try simp at this); omega)
  have x10_t2 : w8.heap.size ≤ w10.heap.size := Nat.le_of_lt z10_t2
  have d10_t2_0 : w10.cell? ⟨w8.heap.size, 0, none⟩ = some (.int .i64 tc) := keep (by go_cell) hb10
  have d10_t2_1 : w10.cell? ⟨w8.heap.size, 1, none⟩ = some (.int .i64 tn) := keep (by go_cell) hb10
  have d10_t2_2 : w10.cell? ⟨w8.heap.size, 2, none⟩ = some (.int .i64 td) := keep (by go_cell) hb10
  have d10_t2_3 : w10.cell? ⟨w8.heap.size, 3, none⟩ = some (.int .i64 tl) := keep (by go_cell) hb10
  have d10_t2_4 : w10.cell? ⟨w8.heap.size, 4, none⟩ = some (.int .i64 ta) := keep (by go_cell) hb10
  have d10_t2_5 : w10.cell? ⟨w8.heap.size, 5, none⟩ = some (.int .i64 te) := keep (by go_cell) hb10
  have z10_y : w9.heap.size < w10.heap.size := by (have := hb10.size; (try simp at this); omega)
  have x10_y : w9.heap.size ≤ w10.heap.size := Nat.le_of_lt z10_y
  have d10_y_0 : w10.cell? ⟨w9.heap.size, 0, none⟩ = some (.int .i64 y) := keep (by go_cell) hb10
  have d10_y_1 : w10.cell? ⟨w9.heap.size, 1, none⟩ = some (.int .i64 ye) := keep (by go_cell) hb10
  clear hb10 d9_b_0 d9_b_1 d9_b_2 d9_b_3 d9_b_4 d9_n_0 d9_n_1 d9_n_2 d9_n_3 d9_n_4 d9_r_0 d9_r_1 d9_r_2 d9_r_3 d9_r_4 d9_t_0 d9_t_1 d9_t_2 d9_t_3 d9_t_4 d9_n2_0 d9_n2_1 d9_n2_2 d9_n2_3 d9_n2_4 d9_n2_5 d9_r2_0 d9_r2_1 d9_r2_2 d9_r2_3 d9_r2_4 d9_r2_5 d9_t2_0 d9_t2_1 d9_t2_2 d9_t2_3 d9_t2_4 d9_t2_5
  go_upto_region 12 with (fail)
  have gc := grow_cell
  refine wp_region_quiet_below (by kernel_rfl) (by kernel_rfl) ?_
  repeat (quiet_step (first | (go_at_call 19; with_reducible exact Calls.regrown_of (sane' _)) | (go_at_call 20; with_reducible exact Calls.regrown_of (I1.out _)) | (go_at_call 21; with_reducible exact Calls.regrown_of (J1.out _)) | (go_at_call 22; with_reducible exact Calls.regrown_of (I2.out _)) | (go_at_call 23; with_reducible exact Calls.regrown_of (J2.out _))))
  refine wpQuiet_nil ?_
  intro w11 hw'
  obtain ⟨⟨dq, osq⟩, hw''⟩ := hw'
  have hb11 := below_of_grow hw''
  clear hw'' gc
  have B11 : Below w.heap.size w w11 := bt (by (repeat' (first | (with_reducible exact Below.refl _ _) | (with_reducible assumption) | (with_reducible refine Below.alloc ?_ ?_ _) | (with_reducible refine Below.drew ?_) | (with_reducible refine below_dn ?_) | (with_reducible refine Below.setCell ?_ ?_ _) | (with_reducible exact Nat.le_refl _) | omega | (simp only [World.size_alloc, World.size_setCell, World.size_drew]; omega) | (simp; omega) | (simp; done)))) hb11
  have s11 : w.heap.size ≤ w11.heap.size := B11.size
  have z11_b : w.heap.size < w11.heap.size := by (have := hb11.size; (try simp at this); omega)
  have x11_b : w.heap.size ≤ w11.heap.size := Nat.le_of_lt z11_b
  have d11_b_0 : w11.cell? ⟨w.heap.size, 0, none⟩ = some (.int .i64 c) := keep (by go_cell) hb11
  have d11_b_1 : w11.cell? ⟨w.heap.size, 1, none⟩ = some (.int .i64 n) := keep (by go_cell) hb11
  have d11_b_2 : w11.cell? ⟨w.heap.size, 2, none⟩ = some (.int .i64 d) := keep (by go_cell) hb11
  have d11_b_3 : w11.cell? ⟨w.heap.size, 3, none⟩ = some (.int .i64 l) := keep (by go_cell) hb11
  have d11_b_4 : w11.cell? ⟨w.heap.size, 4, none⟩ = some (.int .i64 a) := keep (by go_cell) hb11
  have z11_n : w1.heap.size < w11.heap.size := by (have := hb11.size; (try simp at this); omega)
  have x11_n : w1.heap.size ≤ w11.heap.size := Nat.le_of_lt z11_n
  have d11_n_0 : w11.cell? ⟨w1.heap.size, 0, none⟩ = some (.int .i64 nc) := keep (by go_cell) hb11
  have d11_n_1 : w11.cell? ⟨w1.heap.size, 1, none⟩ = some (.int .i64 nn) := keep (by go_cell) hb11
  have d11_n_2 : w11.cell? ⟨w1.heap.size, 2, none⟩ = some (.int .i64 nd) := keep (by go_cell) hb11
  have d11_n_3 : w11.cell? ⟨w1.heap.size, 3, none⟩ = some (.int .i64 nl) := keep (by go_cell) hb11
  have d11_n_4 : w11.cell? ⟨w1.heap.size, 4, none⟩ = some (.int .i64 na) := keep (by go_cell) hb11
  have z11_r : w2.heap.size < w11.heap.size := by (have := hb11.size; (try simp at this); omega)
  have x11_r : w2.heap.size ≤ w11.heap.size := Nat.le_of_lt z11_r
  have d11_r_0 : w11.cell? ⟨w2.heap.size, 0, none⟩ = some (.int .i64 rc) := keep (by go_cell) hb11
  have d11_r_1 : w11.cell? ⟨w2.heap.size, 1, none⟩ = some (.int .i64 rn) := keep (by go_cell) hb11
  have d11_r_2 : w11.cell? ⟨w2.heap.size, 2, none⟩ = some (.int .i64 rd) := keep (by go_cell) hb11
  have d11_r_3 : w11.cell? ⟨w2.heap.size, 3, none⟩ = some (.int .i64 rl) := keep (by go_cell) hb11
  have d11_r_4 : w11.cell? ⟨w2.heap.size, 4, none⟩ = some (.int .i64 ra) := keep (by go_cell) hb11
  have z11_t : w3.heap.size < w11.heap.size := by (have := hb11.size; (try simp at this); omega)
  have x11_t : w3.heap.size ≤ w11.heap.size := Nat.le_of_lt z11_t
  have d11_t_0 : w11.cell? ⟨w3.heap.size, 0, none⟩ = some (.int .i64 tc) := keep (by go_cell) hb11
  have d11_t_1 : w11.cell? ⟨w3.heap.size, 1, none⟩ = some (.int .i64 tn) := keep (by go_cell) hb11
  have d11_t_2 : w11.cell? ⟨w3.heap.size, 2, none⟩ = some (.int .i64 td) := keep (by go_cell) hb11
  have d11_t_3 : w11.cell? ⟨w3.heap.size, 3, none⟩ = some (.int .i64 tl) := keep (by go_cell) hb11
  have d11_t_4 : w11.cell? ⟨w3.heap.size, 4, none⟩ = some (.int .i64 ta) := keep (by go_cell) hb11
  have z11_n2 : w6.heap.size < w11.heap.size := by (have := hb11.size; (try simp at this); omega)
  have x11_n2 : w6.heap.size ≤ w11.heap.size := Nat.le_of_lt z11_n2
  have d11_n2_0 : w11.cell? ⟨w6.heap.size, 0, none⟩ = some (.int .i64 nc) := keep (by go_cell) hb11
  have d11_n2_1 : w11.cell? ⟨w6.heap.size, 1, none⟩ = some (.int .i64 nn) := keep (by go_cell) hb11
  have d11_n2_2 : w11.cell? ⟨w6.heap.size, 2, none⟩ = some (.int .i64 nd) := keep (by go_cell) hb11
  have d11_n2_3 : w11.cell? ⟨w6.heap.size, 3, none⟩ = some (.int .i64 nl) := keep (by go_cell) hb11
  have d11_n2_4 : w11.cell? ⟨w6.heap.size, 4, none⟩ = some (.int .i64 na) := keep (by go_cell) hb11
  have d11_n2_5 : w11.cell? ⟨w6.heap.size, 5, none⟩ = some (.int .i64 ne) := keep (by go_cell) hb11
  have z11_r2 : w7.heap.size < w11.heap.size := by (have := hb11.size; (try simp at this); omega)
  have x11_r2 : w7.heap.size ≤ w11.heap.size := Nat.le_of_lt z11_r2
  have d11_r2_0 : w11.cell? ⟨w7.heap.size, 0, none⟩ = some (.int .i64 rc) := keep (by go_cell) hb11
  have d11_r2_1 : w11.cell? ⟨w7.heap.size, 1, none⟩ = some (.int .i64 rn) := keep (by go_cell) hb11
  have d11_r2_2 : w11.cell? ⟨w7.heap.size, 2, none⟩ = some (.int .i64 rd) := keep (by go_cell) hb11
  have d11_r2_3 : w11.cell? ⟨w7.heap.size, 3, none⟩ = some (.int .i64 rl) := keep (by go_cell) hb11
  have d11_r2_4 : w11.cell? ⟨w7.heap.size, 4, none⟩ = some (.int .i64 ra) := keep (by go_cell) hb11
  have d11_r2_5 : w11.cell? ⟨w7.heap.size, 5, none⟩ = some (.int .i64 re) := keep (by go_cell) hb11
  have z11_t2 : w8.heap.size < w11.heap.size := by (have := hb11.size; (try simp at this); omega)
  have x11_t2 : w8.heap.size ≤ w11.heap.size := Nat.le_of_lt z11_t2
  have d11_t2_0 : w11.cell? ⟨w8.heap.size, 0, none⟩ = some (.int .i64 tc) := keep (by go_cell) hb11
  have d11_t2_1 : w11.cell? ⟨w8.heap.size, 1, none⟩ = some (.int .i64 tn) := keep (by go_cell) hb11
  have d11_t2_2 : w11.cell? ⟨w8.heap.size, 2, none⟩ = some (.int .i64 td) := keep (by go_cell) hb11
  have d11_t2_3 : w11.cell? ⟨w8.heap.size, 3, none⟩ = some (.int .i64 tl) := keep (by go_cell) hb11
  have d11_t2_4 : w11.cell? ⟨w8.heap.size, 4, none⟩ = some (.int .i64 ta) := keep (by go_cell) hb11
  have d11_t2_5 : w11.cell? ⟨w8.heap.size, 5, none⟩ = some (.int .i64 te) := keep (by go_cell) hb11
  have z11_y : w9.heap.size < w11.heap.size := by (have := hb11.size; (try simp at this); omega)
  have x11_y : w9.heap.size ≤ w11.heap.size := Nat.le_of_lt z11_y
  have d11_y_0 : w11.cell? ⟨w9.heap.size, 0, none⟩ = some (.int .i64 y) := keep (by go_cell) hb11
  have d11_y_1 : w11.cell? ⟨w9.heap.size, 1, none⟩ = some (.int .i64 ye) := keep (by go_cell) hb11
  have z11_z : w10.heap.size < w11.heap.size := by (have := hb11.size; (try simp at this); omega)
  have x11_z : w10.heap.size ≤ w11.heap.size := Nat.le_of_lt z11_z
  have d11_z_0 : w11.cell? ⟨w10.heap.size, 0, none⟩ = some (.int .i64 z) := keep (by go_cell) hb11
  have d11_z_1 : w11.cell? ⟨w10.heap.size, 1, none⟩ = some (.int .i64 ze) := keep (by go_cell) hb11
  clear hb11 d10_b_0 d10_b_1 d10_b_2 d10_b_3 d10_b_4 d10_n_0 d10_n_1 d10_n_2 d10_n_3 d10_n_4 d10_r_0 d10_r_1 d10_r_2 d10_r_3 d10_r_4 d10_t_0 d10_t_1 d10_t_2 d10_t_3 d10_t_4 d10_n2_0 d10_n2_1 d10_n2_2 d10_n2_3 d10_n2_4 d10_n2_5 d10_r2_0 d10_r2_1 d10_r2_2 d10_r2_3 d10_r2_4 d10_r2_5 d10_t2_0 d10_t2_1 d10_t2_2 d10_t2_3 d10_t2_4 d10_t2_5 d10_y_0 d10_y_1
  go_wp2
  all_goals
    go_ret
    exact ⟨ret_bool (by first | rfl | (apply decide_eq_true; omega) | (simp; omega)), by (repeat' (first | (with_reducible exact Below.refl _ _) | (with_reducible assumption) | (with_reducible refine Below.alloc ?_ ?_ _) | (with_reducible refine Below.drew ?_) | (with_reducible refine below_dn ?_) | (with_reducible refine Below.setCell ?_ ?_ _) | (with_reducible exact Nat.le_refl _) | omega | (simp only [World.size_alloc, World.size_setCell, World.size_drew]; omega) | (simp; omega) | (simp; done)))⟩
end Go.Proofs.Ytigalbgailnicaa
