import Derived.Test.YtigalbgailnicaaH
import Derived.Deep.Cut
namespace Go.Proofs.Ytigalbgailnicaa
set_option linter.unusedVariables false
set_option linter.unusedSimpArgs false
open Go.RowKit Go.Sort
set_option maxRecDepth 100000 in
set_option maxHeartbeats 2000000 in
theorem steps_bad (c n d l a t u x : Int) (w : World) (h : ¬ OkB c n d l a) :
    Calls Try.prog 7 #[bk c n d l a, .int .i64 t, .int .i64 u, .int .i64 x] w fun e w' => e = .returned (.bool true) ∧ Below w.heap.size w w' := by
  have HH := Lib.hid h; clear h
  go_enter Try.func7, Try.ntmps7
  go_wp2_with fail
  refine (valid_no _ _ _ _ _ _ HH.out).mono ?_
  rintro e w1 ⟨rfl, hb1⟩
  have B1 : Below w.heap.size w w1 := bt (by (repeat' (first | (with_reducible exact Below.refl _ _) | (with_reducible assumption) | (with_reducible refine Below.alloc ?_ ?_ _) | (with_reducible refine Below.drew ?_) | (with_reducible refine below_dn ?_) | (with_reducible refine Below.setCell ?_ ?_ _) | (with_reducible exact Nat.le_refl _) | omega | (simp only [World.size_alloc, World.size_setCell, World.size_drew]; omega) | (simp; omega) | (simp; done)))) hb1
  have s1 : w.heap.size ≤ w1.heap.size := B1.size
  have z1_b : w.heap.size < w1.heap.size := by (have := hb1.size; (try simp at this); omega)
  have x1_b : w.heap.size ≤ w1.heap.size := Nat.le_of_lt z1_b
  have d1_b_0 : w1.cell? ⟨w.heap.size, 0, none⟩ = some (.int .i64 c) := keep (by go_cell) hb1
  have d1_b_1 : w1.cell? ⟨w.heap.size, 1, none⟩ = some (.int .i64 n) := keep (by go_cell) hb1
  have d1_b_2 : w1.cell? ⟨w.heap.size, 2, none⟩ = some (.int .i64 d) := keep (by go_cell) hb1
  have d1_b_3 : w1.cell? ⟨w.heap.size, 3, none⟩ = some (.int .i64 l) := keep (by go_cell) hb1
  have d1_b_4 : w1.cell? ⟨w.heap.size, 4, none⟩ = some (.int .i64 a) := keep (by go_cell) hb1
  clear hb1
  go_wp2_with fail
  refine (sane _).mono ?_
  rintro e w2 ⟨rfl, hb2⟩
  have B2 : Below w.heap.size w w2 := bt (by (repeat' (first | (with_reducible exact Below.refl _ _) | (with_reducible assumption) | (with_reducible refine Below.alloc ?_ ?_ _) | (with_reducible refine Below.drew ?_) | (with_reducible refine below_dn ?_) | (with_reducible refine Below.setCell ?_ ?_ _) | (with_reducible exact Nat.le_refl _) | omega | (simp only [World.size_alloc, World.size_setCell, World.size_drew]; omega) | (simp; omega) | (simp; done)))) hb2
  have s2 : w.heap.size ≤ w2.heap.size := B2.size
  have z2_b : w.heap.size < w2.heap.size := by (have := hb2.size; (try simp at this); omega)
  have x2_b : w.heap.size ≤ w2.heap.size := Nat.le_of_lt z2_b
  have d2_b_0 : w2.cell? ⟨w.heap.size, 0, none⟩ = some (.int .i64 c) := keep (by go_cell) hb2
  have d2_b_1 : w2.cell? ⟨w.heap.size, 1, none⟩ = some (.int .i64 n) := keep (by go_cell) hb2
  have d2_b_2 : w2.cell? ⟨w.heap.size, 2, none⟩ = some (.int .i64 d) := keep (by go_cell) hb2
  have d2_b_3 : w2.cell? ⟨w.heap.size, 3, none⟩ = some (.int .i64 l) := keep (by go_cell) hb2
  have d2_b_4 : w2.cell? ⟨w.heap.size, 4, none⟩ = some (.int .i64 a) := keep (by go_cell) hb2
  clear hb2 d1_b_0 d1_b_1 d1_b_2 d1_b_3 d1_b_4
  go_wp2
  all_goals
    go_ret
    exact ⟨ret_bool (by first | rfl | (apply decide_eq_true; omega) | (simp; omega)), by (repeat' (first | (with_reducible exact Below.refl _ _) | (with_reducible assumption) | (with_reducible refine Below.alloc ?_ ?_ _) | (with_reducible refine Below.drew ?_) | (with_reducible refine below_dn ?_) | (with_reducible refine Below.setCell ?_ ?_ _) | (with_reducible exact Nat.le_refl _) | omega | (simp only [World.size_alloc, World.size_setCell, World.size_drew]; omega) | (simp; omega) | (simp; done)))⟩
set_option maxRecDepth 100000 in
set_option maxHeartbeats 2000000 in
theorem steps_time (c n d l a t u x : Int) (w : World) (h : OkB c n d l a) (k : t < a ∨ u < t ∨ 1099511627776 < u) :
    Calls Try.prog 7 #[bk c n d l a, .int .i64 t, .int .i64 u, .int .i64 x] w fun e w' => e = .returned (.bool true) ∧ Below w.heap.size w w' := by
  have HH := Lib.hid h; clear h
  go_enter Try.func7, Try.ntmps7
  go_wp2_with fail
  refine (valid_yes _ _ _ _ _ _ HH.out).mono ?_
  rintro e w1 ⟨rfl, hb1⟩
  have B1 : Below w.heap.size w w1 := bt (by (repeat' (first | (with_reducible exact Below.refl _ _) | (with_reducible assumption) | (with_reducible refine Below.alloc ?_ ?_ _) | (with_reducible refine Below.drew ?_) | (with_reducible refine below_dn ?_) | (with_reducible refine Below.setCell ?_ ?_ _) | (with_reducible exact Nat.le_refl _) | omega | (simp only [World.size_alloc, World.size_setCell, World.size_drew]; omega) | (simp; omega) | (simp; done)))) hb1
  have s1 : w.heap.size ≤ w1.heap.size := B1.size
  have z1_b : w.heap.size < w1.heap.size := by (have := hb1.size; (try simp at this); omega)
  have x1_b : w.heap.size ≤ w1.heap.size := Nat.le_of_lt z1_b
  have d1_b_0 : w1.cell? ⟨w.heap.size, 0, none⟩ = some (.int .i64 c) := keep (by go_cell) hb1
  have d1_b_1 : w1.cell? ⟨w.heap.size, 1, none⟩ = some (.int .i64 n) := keep (by go_cell) hb1
  have d1_b_2 : w1.cell? ⟨w.heap.size, 2, none⟩ = some (.int .i64 d) := keep (by go_cell) hb1
  have d1_b_3 : w1.cell? ⟨w.heap.size, 3, none⟩ = some (.int .i64 l) := keep (by go_cell) hb1
  have d1_b_4 : w1.cell? ⟨w.heap.size, 4, none⟩ = some (.int .i64 a) := keep (by go_cell) hb1
  clear hb1
  go_wp2_with fail
  all_goals
    refine (sane _).mono ?_
    rintro e w2 ⟨rfl, hb2⟩
    have B2 : Below w.heap.size w w2 := bt (by (repeat' (first | (with_reducible exact Below.refl _ _) | (with_reducible assumption) | (with_reducible refine Below.alloc ?_ ?_ _) | (with_reducible refine Below.drew ?_) | (with_reducible refine below_dn ?_) | (with_reducible refine Below.setCell ?_ ?_ _) | (with_reducible exact Nat.le_refl _) | omega | (simp only [World.size_alloc, World.size_setCell, World.size_drew]; omega) | (simp; omega) | (simp; done)))) hb2
    have s2 : w.heap.size ≤ w2.heap.size := B2.size
    have z2_b : w.heap.size < w2.heap.size := by (have := hb2.size; (try simp at this); omega)
    have x2_b : w.heap.size ≤ w2.heap.size := Nat.le_of_lt z2_b
    have d2_b_0 : w2.cell? ⟨w.heap.size, 0, none⟩ = some (.int .i64 c) := keep (by go_cell) hb2
    have d2_b_1 : w2.cell? ⟨w.heap.size, 1, none⟩ = some (.int .i64 n) := keep (by go_cell) hb2
    have d2_b_2 : w2.cell? ⟨w.heap.size, 2, none⟩ = some (.int .i64 d) := keep (by go_cell) hb2
    have d2_b_3 : w2.cell? ⟨w.heap.size, 3, none⟩ = some (.int .i64 l) := keep (by go_cell) hb2
    have d2_b_4 : w2.cell? ⟨w.heap.size, 4, none⟩ = some (.int .i64 a) := keep (by go_cell) hb2
    clear hb2 d1_b_0 d1_b_1 d1_b_2 d1_b_3 d1_b_4
    go_wp2
    go_ret
    exact ⟨rfl, by (repeat' (first | (with_reducible exact Below.refl _ _) | (with_reducible assumption) | (with_reducible refine Below.alloc ?_ ?_ _) | (with_reducible refine Below.drew ?_) | (with_reducible refine below_dn ?_) | (with_reducible refine Below.setCell ?_ ?_ _) | (with_reducible exact Nat.le_refl _) | omega | (simp only [World.size_alloc, World.size_setCell, World.size_drew]; omega) | (simp; omega) | (simp; done)))⟩
set_option maxRecDepth 100000 in
set_option maxHeartbeats 1500000 in
theorem steps_out (c n d l a t u x : Int) (w : World) (h : OkB c n d l a) (k1 : a ≤ t) (k2 : t ≤ u) (k3 : u ≤ 1099511627776) (k4 : x < 0 ∨ l < x) :
    Calls Try.prog 7 #[bk c n d l a, .int .i64 t, .int .i64 u, .int .i64 x] w fun e w' => e = .returned (.bool true) ∧ Below w.heap.size w w' := by
  have HH := Lib.hid h
  have hn := h.2.2.1
  have hd := h.2.2.2.2.1
  have hl0 := h.2.2.2.2.2.2.1
  have ok2 := lvl_ok h t k1 (by omega)
  have q := ok2
  have r := lvl_ok h u (by omega) k3
  have bp := h.prod
  have c1 := fun W : World => refill_ok c n d l a t W h k1 (by omega)
  have c2 := fun W : World => refill_ok c n d (lvl c n d l a t) t u W ok2 k2 k3
  have c3 := fun W : World => refill_ok c n d l a u W h (by omega) k3
  have st := lvl_step c n d l a t u hn k1 k2
  have mo := lvl_mono c n d l a t u hn k2
  have c4 := fun W : World => tokens_ok c n d (lvl c n d l a t) t W ok2
  have c5 := fun W : World => tokens_ok c n d (lvl c n d l a u) u W r
  obtain ⟨X, hX⟩ : ∃ X, lvl c n d l a t = X := ⟨_, rfl⟩
  obtain ⟨Y, hY⟩ : ∃ Y, lvl c n d l a u = Y := ⟨_, rfl⟩
  have qx : 0 ≤ X ∧ X ≤ 1125899906842624 := by rw [← hX]; have := q.2.2.2.2.2.2.1; have := q.2.2.2.2.2.2.2.1; omega
  have qy : 0 ≤ Y ∧ Y ≤ 1125899906842624 := by rw [← hY]; have := r.2.2.2.2.2.2.1; have := r.2.2.2.2.2.2.2.1; omega
  have hl1 : l ≤ 1125899906842624 := by have := h.2.2.2.2.2.2.2.1; omega
  rw [hX] at c1 c2 c4 st mo
  rw [st] at c2
  rw [hY] at c2 c3 c5 mo
  have tk : X / d ≤ Y / d := Int.ediv_le_ediv (by omega) mo
  obtain ⟨P, hP⟩ : ∃ P, X / d = P := ⟨_, rfl⟩
  obtain ⟨Q, hQ⟩ : ∃ Q, Y / d = Q := ⟨_, rfl⟩
  rw [hP] at c4 tk
  rw [hQ] at c5 tk
  have C1 := Lib.hid c1; have C2 := Lib.hid c2; have C3 := Lib.hid c3; have C4 := Lib.hid c4; have C5 := Lib.hid c5
  obtain ⟨qx1, qx2⟩ := qx; obtain ⟨qy1, qy2⟩ := qy
  have ha := h.2.2.2.2.2.2.2.2
  clear c1 c2 c3 c4 c5 st ok2 q r h hX hP hQ bp hY
  go_enter Try.func7, Try.ntmps7
  go_wp2_with fail
  refine (valid_yes _ _ _ _ _ _ HH.out).mono ?_
  rintro e w1 ⟨rfl, hb1⟩
  have B1 : Below w.heap.size w w1 := bt (by (repeat' (first | (with_reducible exact Below.refl _ _) | (with_reducible assumption) | (with_reducible refine Below.alloc ?_ ?_ _) | (with_reducible refine Below.drew ?_) | (with_reducible refine below_dn ?_) | (with_reducible refine Below.setCell ?_ ?_ _) | (with_reducible exact Nat.le_refl _) | omega | (simp only [World.size_alloc, World.size_setCell, World.size_drew]; omega) | (simp; omega) | (simp; done)))) hb1
  have s1 : w.heap.size ≤ w1.heap.size := B1.size
  have z1_b : w.heap.size < w1.heap.size := by (have := hb1.size; (try simp at this); omega)
  have x1_b : w.heap.size ≤ w1.heap.size := Nat.le_of_lt z1_b
  have d1_b_0 : w1.cell? ⟨w.heap.size, 0, none⟩ = some (.int .i64 c) := keep (by go_cell) hb1
  have d1_b_1 : w1.cell? ⟨w.heap.size, 1, none⟩ = some (.int .i64 n) := keep (by go_cell) hb1
  have d1_b_2 : w1.cell? ⟨w.heap.size, 2, none⟩ = some (.int .i64 d) := keep (by go_cell) hb1
  have d1_b_3 : w1.cell? ⟨w.heap.size, 3, none⟩ = some (.int .i64 l) := keep (by go_cell) hb1
  have d1_b_4 : w1.cell? ⟨w.heap.size, 4, none⟩ = some (.int .i64 a) := keep (by go_cell) hb1
  clear hb1
  go_wp2_with fail
  refine (C1.out _).mono ?_
  rintro e w2 ⟨rfl, hb2⟩
  have B2 : Below w.heap.size w w2 := bt (by (repeat' (first | (with_reducible exact Below.refl _ _) | (with_reducible assumption) | (with_reducible refine Below.alloc ?_ ?_ _) | (with_reducible refine Below.drew ?_) | (with_reducible refine below_dn ?_) | (with_reducible refine Below.setCell ?_ ?_ _) | (with_reducible exact Nat.le_refl _) | omega | (simp only [World.size_alloc, World.size_setCell, World.size_drew]; omega) | (simp; omega) | (simp; done)))) hb2
  have s2 : w.heap.size ≤ w2.heap.size := B2.size
  have z2_b : w.heap.size < w2.heap.size := by (have := hb2.size; (try simp at this); omega)
  have x2_b : w.heap.size ≤ w2.heap.size := Nat.le_of_lt z2_b
  have d2_b_0 : w2.cell? ⟨w.heap.size, 0, none⟩ = some (.int .i64 c) := keep (by go_cell) hb2
  have d2_b_1 : w2.cell? ⟨w.heap.size, 1, none⟩ = some (.int .i64 n) := keep (by go_cell) hb2
  have d2_b_2 : w2.cell? ⟨w.heap.size, 2, none⟩ = some (.int .i64 d) := keep (by go_cell) hb2
  have d2_b_3 : w2.cell? ⟨w.heap.size, 3, none⟩ = some (.int .i64 l) := keep (by go_cell) hb2
  have d2_b_4 : w2.cell? ⟨w.heap.size, 4, none⟩ = some (.int .i64 a) := keep (by go_cell) hb2
  clear hb2 d1_b_0 d1_b_1 d1_b_2 d1_b_3 d1_b_4
  go_wp2_with fail
  refine (C2.out _).mono ?_
  rintro e w3 ⟨rfl, hb3⟩
  have B3 : Below w.heap.size w w3 := bt (by (repeat' (first | (with_reducible exact Below.refl _ _) | (with_reducible assumption) | (with_reducible refine Below.alloc ?_ ?_ _) | (with_reducible refine Below.drew ?_) | (with_reducible refine below_dn ?_) | (with_reducible refine Below.setCell ?_ ?_ _) | (with_reducible exact Nat.le_refl _) | omega | (simp only [World.size_alloc, World.size_setCell, World.size_drew]; omega) | (simp; omega) | (simp; done)))) hb3
  have s3 : w.heap.size ≤ w3.heap.size := B3.size
  have z3_b : w.heap.size < w3.heap.size := by (have := hb3.size; (try simp at this); omega)
  have x3_b : w.heap.size ≤ w3.heap.size := Nat.le_of_lt z3_b
  have d3_b_0 : w3.cell? ⟨w.heap.size, 0, none⟩ = some (.int .i64 c) := keep (by go_cell) hb3
  have d3_b_1 : w3.cell? ⟨w.heap.size, 1, none⟩ = some (.int .i64 n) := keep (by go_cell) hb3
  have d3_b_2 : w3.cell? ⟨w.heap.size, 2, none⟩ = some (.int .i64 d) := keep (by go_cell) hb3
  have d3_b_3 : w3.cell? ⟨w.heap.size, 3, none⟩ = some (.int .i64 l) := keep (by go_cell) hb3
  have d3_b_4 : w3.cell? ⟨w.heap.size, 4, none⟩ = some (.int .i64 a) := keep (by go_cell) hb3
  have z3_x : w2.heap.size < w3.heap.size := by (have := hb3.size; (try simp at this); omega)
  have x3_x : w2.heap.size ≤ w3.heap.size := Nat.le_of_lt z3_x
  have d3_x_0 : w3.cell? ⟨w2.heap.size, 0, none⟩ = some (.int .i64 c) := keep (by go_cell) hb3
  have d3_x_1 : w3.cell? ⟨w2.heap.size, 1, none⟩ = some (.int .i64 n) := keep (by go_cell) hb3
  have d3_x_2 : w3.cell? ⟨w2.heap.size, 2, none⟩ = some (.int .i64 d) := keep (by go_cell) hb3
  have d3_x_3 : w3.cell? ⟨w2.heap.size, 3, none⟩ = some (.int .i64 X) := keep (by go_cell) hb3
  have d3_x_4 : w3.cell? ⟨w2.heap.size, 4, none⟩ = some (.int .i64 t) := keep (by go_cell) hb3
  clear hb3 d2_b_0 d2_b_1 d2_b_2 d2_b_3 d2_b_4
  go_wp2_with fail
  refine (C3.out _).mono ?_
  rintro e w4 ⟨rfl, hb4⟩
  have B4 : Below w.heap.size w w4 := bt (by (repeat' (first | (with_reducible exact Below.refl _ _) | (with_reducible assumption) | (with_reducible refine Below.alloc ?_ ?_ _) | (with_reducible refine Below.drew ?_) | (with_reducible refine below_dn ?_) | (with_reducible refine Below.setCell ?_ ?_ _) | (with_reducible exact Nat.le_refl _) | omega | (simp only [World.size_alloc, World.size_setCell, World.size_drew]; omega) | (simp; omega) | (simp; done)))) hb4
  have s4 : w.heap.size ≤ w4.heap.size := B4.size
  have z4_b : w.heap.size < w4.heap.size := by (have := hb4.size; (try simp at this); omega)
  have x4_b : w.heap.size ≤ w4.heap.size := Nat.le_of_lt z4_b
  have d4_b_0 : w4.cell? ⟨w.heap.size, 0, none⟩ = some (.int .i64 c) := keep (by go_cell) hb4
  have d4_b_1 : w4.cell? ⟨w.heap.size, 1, none⟩ = some (.int .i64 n) := keep (by go_cell) hb4
  have d4_b_2 : w4.cell? ⟨w.heap.size, 2, none⟩ = some (.int .i64 d) := keep (by go_cell) hb4
  have d4_b_3 : w4.cell? ⟨w.heap.size, 3, none⟩ = some (.int .i64 l) := keep (by go_cell) hb4
  have d4_b_4 : w4.cell? ⟨w.heap.size, 4, none⟩ = some (.int .i64 a) := keep (by go_cell) hb4
  have z4_x : w2.heap.size < w4.heap.size := by (have := hb4.size; (try simp at this); omega)
  have x4_x : w2.heap.size ≤ w4.heap.size := Nat.le_of_lt z4_x
  have d4_x_0 : w4.cell? ⟨w2.heap.size, 0, none⟩ = some (.int .i64 c) := keep (by go_cell) hb4
  have d4_x_1 : w4.cell? ⟨w2.heap.size, 1, none⟩ = some (.int .i64 n) := keep (by go_cell) hb4
  have d4_x_2 : w4.cell? ⟨w2.heap.size, 2, none⟩ = some (.int .i64 d) := keep (by go_cell) hb4
  have d4_x_3 : w4.cell? ⟨w2.heap.size, 3, none⟩ = some (.int .i64 X) := keep (by go_cell) hb4
  have d4_x_4 : w4.cell? ⟨w2.heap.size, 4, none⟩ = some (.int .i64 t) := keep (by go_cell) hb4
  have z4_y : w3.heap.size < w4.heap.size := by (have := hb4.size; (try simp at this); omega)
  have x4_y : w3.heap.size ≤ w4.heap.size := Nat.le_of_lt z4_y
  have d4_y_0 : w4.cell? ⟨w3.heap.size, 0, none⟩ = some (.int .i64 c) := keep (by go_cell) hb4
  have d4_y_1 : w4.cell? ⟨w3.heap.size, 1, none⟩ = some (.int .i64 n) := keep (by go_cell) hb4
  have d4_y_2 : w4.cell? ⟨w3.heap.size, 2, none⟩ = some (.int .i64 d) := keep (by go_cell) hb4
  have d4_y_3 : w4.cell? ⟨w3.heap.size, 3, none⟩ = some (.int .i64 Y) := keep (by go_cell) hb4
  have d4_y_4 : w4.cell? ⟨w3.heap.size, 4, none⟩ = some (.int .i64 u) := keep (by go_cell) hb4
  clear hb4 d3_b_0 d3_b_1 d3_b_2 d3_b_3 d3_b_4 d3_x_0 d3_x_1 d3_x_2 d3_x_3 d3_x_4
  go_upto_region 6 with (fail)
  have gc := grow_cell
  refine wp_region_quiet_below (by kernel_rfl) (by kernel_rfl) ?_
  repeat (quiet_step (first | (go_at_call 22; with_reducible exact Calls.regrown_of (C4.out _)) | (go_at_call 22; with_reducible exact Calls.regrown_of (C5.out _))))
  refine wpQuiet_nil ?_
  intro w5 hw'
  obtain ⟨⟨dq, osq⟩, hw''⟩ := hw'
  have hb5 := below_of_grow hw''
  clear hw'' gc
  have B5 : Below w.heap.size w w5 := bt (by (repeat' (first | (with_reducible exact Below.refl _ _) | (with_reducible assumption) | (with_reducible refine Below.alloc ?_ ?_ _) | (with_reducible refine Below.drew ?_) | (with_reducible refine below_dn ?_) | (with_reducible refine Below.setCell ?_ ?_ _) | (with_reducible exact Nat.le_refl _) | omega | (simp only [World.size_alloc, World.size_setCell, World.size_drew]; omega) | (simp; omega) | (simp; done)))) hb5
  have s5 : w.heap.size ≤ w5.heap.size := B5.size
  have z5_b : w.heap.size < w5.heap.size := by (have := hb5.size; (try simp at this); omega)
  have x5_b : w.heap.size ≤ w5.heap.size := Nat.le_of_lt z5_b
  have d5_b_0 : w5.cell? ⟨w.heap.size, 0, none⟩ = some (.int .i64 c) := keep (by go_cell) hb5
  have d5_b_1 : w5.cell? ⟨w.heap.size, 1, none⟩ = some (.int .i64 n) := keep (by go_cell) hb5
  have d5_b_2 : w5.cell? ⟨w.heap.size, 2, none⟩ = some (.int .i64 d) := keep (by go_cell) hb5
  have d5_b_3 : w5.cell? ⟨w.heap.size, 3, none⟩ = some (.int .i64 l) := keep (by go_cell) hb5
  have d5_b_4 : w5.cell? ⟨w.heap.size, 4, none⟩ = some (.int .i64 a) := keep (by go_cell) hb5
  have z5_x : w2.heap.size < w5.heap.size := by (have := hb5.size; (try simp at this); omega)
  have x5_x : w2.heap.size ≤ w5.heap.size := Nat.le_of_lt z5_x
  have d5_x_0 : w5.cell? ⟨w2.heap.size, 0, none⟩ = some (.int .i64 c) := keep (by go_cell) hb5
  have d5_x_1 : w5.cell? ⟨w2.heap.size, 1, none⟩ = some (.int .i64 n) := keep (by go_cell) hb5
  have d5_x_2 : w5.cell? ⟨w2.heap.size, 2, none⟩ = some (.int .i64 d) := keep (by go_cell) hb5
  have d5_x_3 : w5.cell? ⟨w2.heap.size, 3, none⟩ = some (.int .i64 X) := keep (by go_cell) hb5
  have d5_x_4 : w5.cell? ⟨w2.heap.size, 4, none⟩ = some (.int .i64 t) := keep (by go_cell) hb5
  have z5_y : w3.heap.size < w5.heap.size := by (have := hb5.size; (try simp at this); omega)
  have x5_y : w3.heap.size ≤ w5.heap.size := Nat.le_of_lt z5_y
  have d5_y_0 : w5.cell? ⟨w3.heap.size, 0, none⟩ = some (.int .i64 c) := keep (by go_cell) hb5
  have d5_y_1 : w5.cell? ⟨w3.heap.size, 1, none⟩ = some (.int .i64 n) := keep (by go_cell) hb5
  have d5_y_2 : w5.cell? ⟨w3.heap.size, 2, none⟩ = some (.int .i64 d) := keep (by go_cell) hb5
  have d5_y_3 : w5.cell? ⟨w3.heap.size, 3, none⟩ = some (.int .i64 Y) := keep (by go_cell) hb5
  have d5_y_4 : w5.cell? ⟨w3.heap.size, 4, none⟩ = some (.int .i64 u) := keep (by go_cell) hb5
  have z5_z : w4.heap.size < w5.heap.size := by (have := hb5.size; (try simp at this); omega)
  have x5_z : w4.heap.size ≤ w5.heap.size := Nat.le_of_lt z5_z
  have d5_z_0 : w5.cell? ⟨w4.heap.size, 0, none⟩ = some (.int .i64 c) := keep (by go_cell) hb5
  have d5_z_1 : w5.cell? ⟨w4.heap.size, 1, none⟩ = some (.int .i64 n) := keep (by go_cell) hb5
  have d5_z_2 : w5.cell? ⟨w4.heap.size, 2, none⟩ = some (.int .i64 d) := keep (by go_cell) hb5
  have d5_z_3 : w5.cell? ⟨w4.heap.size, 3, none⟩ = some (.int .i64 Y) := keep (by go_cell) hb5
  have d5_z_4 : w5.cell? ⟨w4.heap.size, 4, none⟩ = some (.int .i64 u) := keep (by go_cell) hb5
  clear hb5 d4_b_0 d4_b_1 d4_b_2 d4_b_3 d4_b_4 d4_x_0 d4_x_1 d4_x_2 d4_x_3 d4_x_4 d4_y_0 d4_y_1 d4_y_2 d4_y_3 d4_y_4
  go_wp2_with fail
  all_goals
    refine (sane _).mono ?_
    rintro e w6 ⟨rfl, hb6⟩
    have B6 : Below w.heap.size w w6 := bt (by (repeat' (first | (with_reducible exact Below.refl _ _) | (with_reducible assumption) | (with_reducible refine Below.alloc ?_ ?_ _) | (with_reducible refine Below.drew ?_) | (with_reducible refine below_dn ?_) | (with_reducible refine Below.setCell ?_ ?_ _) | (with_reducible exact Nat.le_refl _) | omega | (simp only [World.size_alloc, World.size_setCell, World.size_drew]; omega) | (simp; omega) | (simp; done)))) hb6
    have s6 : w.heap.size ≤ w6.heap.size := B6.size
    have z6_b : w.heap.size < w6.heap.size := by (have := hb6.size; (try simp at this); omega)
    have x6_b : w.heap.size ≤ w6.heap.size := Nat.le_of_lt z6_b
    have d6_b_0 : w6.cell? ⟨w.heap.size, 0, none⟩ = some (.int .i64 c) := keep (by go_cell) hb6
    have d6_b_1 : w6.cell? ⟨w.heap.size, 1, none⟩ = some (.int .i64 n) := keep (by go_cell) hb6
    have d6_b_2 : w6.cell? ⟨w.heap.size, 2, none⟩ = some (.int .i64 d) := keep (by go_cell) hb6
    have d6_b_3 : w6.cell? ⟨w.heap.size, 3, none⟩ = some (.int .i64 l) := keep (by go_cell) hb6
    have d6_b_4 : w6.cell? ⟨w.heap.size, 4, none⟩ = some (.int .i64 a) := keep (by go_cell) hb6
    have z6_x : w2.heap.size < w6.heap.size := by (have := hb6.size; (try simp at this); omega)
    have x6_x : w2.heap.size ≤ w6.heap.size := Nat.le_of_lt z6_x
    have d6_x_0 : w6.cell? ⟨w2.heap.size, 0, none⟩ = some (.int .i64 c) := keep (by go_cell) hb6
    have d6_x_1 : w6.cell? ⟨w2.heap.size, 1, none⟩ = some (.int .i64 n) := keep (by go_cell) hb6
    have d6_x_2 : w6.cell? ⟨w2.heap.size, 2, none⟩ = some (.int .i64 d) := keep (by go_cell) hb6
    have d6_x_3 : w6.cell? ⟨w2.heap.size, 3, none⟩ = some (.int .i64 X) := keep (by go_cell) hb6
    have d6_x_4 : w6.cell? ⟨w2.heap.size, 4, none⟩ = some (.int .i64 t) := keep (by go_cell) hb6
    have z6_y : w3.heap.size < w6.heap.size := by (have := hb6.size; (try simp at this); omega)
    have x6_y : w3.heap.size ≤ w6.heap.size := Nat.le_of_lt z6_y
    have d6_y_0 : w6.cell? ⟨w3.heap.size, 0, none⟩ = some (.int .i64 c) := keep (by go_cell) hb6
    have d6_y_1 : w6.cell? ⟨w3.heap.size, 1, none⟩ = some (.int .i64 n) := keep (by go_cell) hb6
    have d6_y_2 : w6.cell? ⟨w3.heap.size, 2, none⟩ = some (.int .i64 d) := keep (by go_cell) hb6
    have d6_y_3 : w6.cell? ⟨w3.heap.size, 3, none⟩ = some (.int .i64 Y) := keep (by go_cell) hb6
    have d6_y_4 : w6.cell? ⟨w3.heap.size, 4, none⟩ = some (.int .i64 u) := keep (by go_cell) hb6
    have z6_z : w4.heap.size < w6.heap.size := by (have := hb6.size; (try simp at this); omega)
    have x6_z : w4.heap.size ≤ w6.heap.size := Nat.le_of_lt z6_z
    have d6_z_0 : w6.cell? ⟨w4.heap.size, 0, none⟩ = some (.int .i64 c) := keep (by go_cell) hb6
    have d6_z_1 : w6.cell? ⟨w4.heap.size, 1, none⟩ = some (.int .i64 n) := keep (by go_cell) hb6
    have d6_z_2 : w6.cell? ⟨w4.heap.size, 2, none⟩ = some (.int .i64 d) := keep (by go_cell) hb6
    have d6_z_3 : w6.cell? ⟨w4.heap.size, 3, none⟩ = some (.int .i64 Y) := keep (by go_cell) hb6
    have d6_z_4 : w6.cell? ⟨w4.heap.size, 4, none⟩ = some (.int .i64 u) := keep (by go_cell) hb6
    clear hb6 d5_b_0 d5_b_1 d5_b_2 d5_b_3 d5_b_4 d5_x_0 d5_x_1 d5_x_2 d5_x_3 d5_x_4 d5_y_0 d5_y_1 d5_y_2 d5_y_3 d5_y_4 d5_z_0 d5_z_1 d5_z_2 d5_z_3 d5_z_4
    go_wp2
    go_ret
    exact ⟨rfl, by (repeat' (first | (with_reducible exact Below.refl _ _) | (with_reducible assumption) | (with_reducible refine Below.alloc ?_ ?_ _) | (with_reducible refine Below.drew ?_) | (with_reducible refine below_dn ?_) | (with_reducible refine Below.setCell ?_ ?_ _) | (with_reducible exact Nat.le_refl _) | omega | (simp only [World.size_alloc, World.size_setCell, World.size_drew]; omega) | (simp; omega) | (simp; done)))⟩
set_option maxRecDepth 100000 in
set_option maxHeartbeats 1500000 in
theorem steps_in (c n d l a t u x : Int) (w : World) (h : OkB c n d l a) (k1 : a ≤ t) (k2 : t ≤ u) (k3 : u ≤ 1099511627776) (k4 : 0 ≤ x) (k5 : x ≤ l) :
    Calls Try.prog 7 #[bk c n d l a, .int .i64 t, .int .i64 u, .int .i64 x] w fun e w' => e = .returned (.bool true) ∧ Below w.heap.size w w' := by
  have HH := Lib.hid h
  have hn := h.2.2.1
  have hd := h.2.2.2.2.1
  have hl0 := h.2.2.2.2.2.2.1
  have ok2 := lvl_ok h t k1 (by omega)
  have q := ok2
  have r := lvl_ok h u (by omega) k3
  have bp := h.prod
  have c1 := fun W : World => refill_ok c n d l a t W h k1 (by omega)
  have c2 := fun W : World => refill_ok c n d (lvl c n d l a t) t u W ok2 k2 k3
  have c3 := fun W : World => refill_ok c n d l a u W h (by omega) k3
  have st := lvl_step c n d l a t u hn k1 k2
  have mo := lvl_mono c n d l a t u hn k2
  have c4 := fun W : World => tokens_ok c n d (lvl c n d l a t) t W ok2
  have c5 := fun W : World => tokens_ok c n d (lvl c n d l a u) u W r
  obtain ⟨X, hX⟩ : ∃ X, lvl c n d l a t = X := ⟨_, rfl⟩
  obtain ⟨Y, hY⟩ : ∃ Y, lvl c n d l a u = Y := ⟨_, rfl⟩
  have qx : 0 ≤ X ∧ X ≤ 1125899906842624 := by rw [← hX]; have := q.2.2.2.2.2.2.1; have := q.2.2.2.2.2.2.2.1; omega
  have qy : 0 ≤ Y ∧ Y ≤ 1125899906842624 := by rw [← hY]; have := r.2.2.2.2.2.2.1; have := r.2.2.2.2.2.2.2.1; omega
  have hl1 : l ≤ 1125899906842624 := by have := h.2.2.2.2.2.2.2.1; omega
  rw [hX] at c1 c2 c4 st mo
  rw [st] at c2
  rw [hY] at c2 c3 c5 mo
  have tk : X / d ≤ Y / d := Int.ediv_le_ediv (by omega) mo
  obtain ⟨P, hP⟩ : ∃ P, X / d = P := ⟨_, rfl⟩
  obtain ⟨Q, hQ⟩ : ∃ Q, Y / d = Q := ⟨_, rfl⟩
  rw [hP] at c4 tk
  rw [hQ] at c5 tk
  have C1 := Lib.hid c1; have C2 := Lib.hid c2; have C3 := Lib.hid c3; have C4 := Lib.hid c4; have C5 := Lib.hid c5
  obtain ⟨qx1, qx2⟩ := qx; obtain ⟨qy1, qy2⟩ := qy
  have ha := h.2.2.2.2.2.2.2.2
  have okx : OkB c n d (l - x) a := ⟨h.1, h.2.1, h.2.2.1, h.2.2.2.1, h.2.2.2.2.1, h.2.2.2.2.2.1, by omega, by have := h.2.2.2.2.2.2.2.1; omega, ha⟩
  have s := lvl_ok okx u (by omega) k3
  have c6 := fun W : World => refill_ok c n d (l - x) a u W okx (by omega) k3
  obtain ⟨le1, le2⟩ := lvl_less c n d l a u x k4
  rw [hY] at le1 le2
  obtain ⟨Z, hZ⟩ : ∃ Z, lvl c n d (l - x) a u = Z := ⟨_, rfl⟩
  have qz : 0 ≤ Z := by rw [← hZ]; exact s.2.2.2.2.2.2.1
  rw [hZ] at c6 le1 le2
  have C6 := Lib.hid c6
  clear c1 c2 c3 c4 c5 st ok2 q r h hX hP hQ bp hY c6 s hZ okx
  go_enter Try.func7, Try.ntmps7
  go_wp2_with fail
  refine (valid_yes _ _ _ _ _ _ HH.out).mono ?_
  rintro e w1 ⟨rfl, hb1⟩
  have B1 : Below w.heap.size w w1 := bt (by (repeat' (first | (with_reducible exact Below.refl _ _) | (with_reducible assumption) | (with_reducible refine Below.alloc ?_ ?_ _) | (with_reducible refine Below.drew ?_) | (with_reducible refine below_dn ?_) | (with_reducible refine Below.setCell ?_ ?_ _) | (with_reducible exact Nat.le_refl _) | omega | (simp only [World.size_alloc, World.size_setCell, World.size_drew]; omega) | (simp; omega) | (simp; done)))) hb1
  have s1 : w.heap.size ≤ w1.heap.size := B1.size
  have z1_b : w.heap.size < w1.heap.size := by (have := hb1.size; (try simp at this); omega)
  have x1_b : w.heap.size ≤ w1.heap.size := Nat.le_of_lt z1_b
  have d1_b_0 : w1.cell? ⟨w.heap.size, 0, none⟩ = some (.int .i64 c) := keep (by go_cell) hb1
  have d1_b_1 : w1.cell? ⟨w.heap.size, 1, none⟩ = some (.int .i64 n) := keep (by go_cell) hb1
  have d1_b_2 : w1.cell? ⟨w.heap.size, 2, none⟩ = some (.int .i64 d) := keep (by go_cell) hb1
  have d1_b_3 : w1.cell? ⟨w.heap.size, 3, none⟩ = some (.int .i64 l) := keep (by go_cell) hb1
  have d1_b_4 : w1.cell? ⟨w.heap.size, 4, none⟩ = some (.int .i64 a) := keep (by go_cell) hb1
  clear hb1
  go_wp2_with fail
  refine (C1.out _).mono ?_
  rintro e w2 ⟨rfl, hb2⟩
  have B2 : Below w.heap.size w w2 := bt (by (repeat' (first | (with_reducible exact Below.refl _ _) | (with_reducible assumption) | (with_reducible refine Below.alloc ?_ ?_ _) | (with_reducible refine Below.drew ?_) | (with_reducible refine below_dn ?_) | (with_reducible refine Below.setCell ?_ ?_ _) | (with_reducible exact Nat.le_refl _) | omega | (simp only [World.size_alloc, World.size_setCell, World.size_drew]; omega) | (simp; omega) | (simp; done)))) hb2
  have s2 : w.heap.size ≤ w2.heap.size := B2.size
  have z2_b : w.heap.size < w2.heap.size := by (have := hb2.size; (try simp at this); omega)
  have x2_b : w.heap.size ≤ w2.heap.size := Nat.le_of_lt z2_b
  have d2_b_0 : w2.cell? ⟨w.heap.size, 0, none⟩ = some (.int .i64 c) := keep (by go_cell) hb2
  have d2_b_1 : w2.cell? ⟨w.heap.size, 1, none⟩ = some (.int .i64 n) := keep (by go_cell) hb2
  have d2_b_2 : w2.cell? ⟨w.heap.size, 2, none⟩ = some (.int .i64 d) := keep (by go_cell) hb2
  have d2_b_3 : w2.cell? ⟨w.heap.size, 3, none⟩ = some (.int .i64 l) := keep (by go_cell) hb2
  have d2_b_4 : w2.cell? ⟨w.heap.size, 4, none⟩ = some (.int .i64 a) := keep (by go_cell) hb2
  clear hb2 d1_b_0 d1_b_1 d1_b_2 d1_b_3 d1_b_4
  go_wp2_with fail
  refine (C2.out _).mono ?_
  rintro e w3 ⟨rfl, hb3⟩
  have B3 : Below w.heap.size w w3 := bt (by (repeat' (first | (with_reducible exact Below.refl _ _) | (with_reducible assumption) | (with_reducible refine Below.alloc ?_ ?_ _) | (with_reducible refine Below.drew ?_) | (with_reducible refine below_dn ?_) | (with_reducible refine Below.setCell ?_ ?_ _) | (with_reducible exact Nat.le_refl _) | omega | (simp only [World.size_alloc, World.size_setCell, World.size_drew]; omega) | (simp; omega) | (simp; done)))) hb3
  have s3 : w.heap.size ≤ w3.heap.size := B3.size
  have z3_b : w.heap.size < w3.heap.size := by (have := hb3.size; (try simp at this); omega)
  have x3_b : w.heap.size ≤ w3.heap.size := Nat.le_of_lt z3_b
  have d3_b_0 : w3.cell? ⟨w.heap.size, 0, none⟩ = some (.int .i64 c) := keep (by go_cell) hb3
  have d3_b_1 : w3.cell? ⟨w.heap.size, 1, none⟩ = some (.int .i64 n) := keep (by go_cell) hb3
  have d3_b_2 : w3.cell? ⟨w.heap.size, 2, none⟩ = some (.int .i64 d) := keep (by go_cell) hb3
  have d3_b_3 : w3.cell? ⟨w.heap.size, 3, none⟩ = some (.int .i64 l) := keep (by go_cell) hb3
  have d3_b_4 : w3.cell? ⟨w.heap.size, 4, none⟩ = some (.int .i64 a) := keep (by go_cell) hb3
  have z3_x : w2.heap.size < w3.heap.size := by (have := hb3.size; (try simp at this); omega)
  have x3_x : w2.heap.size ≤ w3.heap.size := Nat.le_of_lt z3_x
  have d3_x_0 : w3.cell? ⟨w2.heap.size, 0, none⟩ = some (.int .i64 c) := keep (by go_cell) hb3
  have d3_x_1 : w3.cell? ⟨w2.heap.size, 1, none⟩ = some (.int .i64 n) := keep (by go_cell) hb3
  have d3_x_2 : w3.cell? ⟨w2.heap.size, 2, none⟩ = some (.int .i64 d) := keep (by go_cell) hb3
  have d3_x_3 : w3.cell? ⟨w2.heap.size, 3, none⟩ = some (.int .i64 X) := keep (by go_cell) hb3
  have d3_x_4 : w3.cell? ⟨w2.heap.size, 4, none⟩ = some (.int .i64 t) := keep (by go_cell) hb3
  clear hb3 d2_b_0 d2_b_1 d2_b_2 d2_b_3 d2_b_4
  go_wp2_with fail
  refine (C3.out _).mono ?_
  rintro e w4 ⟨rfl, hb4⟩
  have B4 : Below w.heap.size w w4 := bt (by (repeat' (first | (with_reducible exact Below.refl _ _) | (with_reducible assumption) | (with_reducible refine Below.alloc ?_ ?_ _) | (with_reducible refine Below.drew ?_) | (with_reducible refine below_dn ?_) | (with_reducible refine Below.setCell ?_ ?_ _) | (with_reducible exact Nat.le_refl _) | omega | (simp only [World.size_alloc, World.size_setCell, World.size_drew]; omega) | (simp; omega) | (simp; done)))) hb4
  have s4 : w.heap.size ≤ w4.heap.size := B4.size
  have z4_b : w.heap.size < w4.heap.size := by (have := hb4.size; (try simp at this); omega)
  have x4_b : w.heap.size ≤ w4.heap.size := Nat.le_of_lt z4_b
  have d4_b_0 : w4.cell? ⟨w.heap.size, 0, none⟩ = some (.int .i64 c) := keep (by go_cell) hb4
  have d4_b_1 : w4.cell? ⟨w.heap.size, 1, none⟩ = some (.int .i64 n) := keep (by go_cell) hb4
  have d4_b_2 : w4.cell? ⟨w.heap.size, 2, none⟩ = some (.int .i64 d) := keep (by go_cell) hb4
  have d4_b_3 : w4.cell? ⟨w.heap.size, 3, none⟩ = some (.int .i64 l) := keep (by go_cell) hb4
  have d4_b_4 : w4.cell? ⟨w.heap.size, 4, none⟩ = some (.int .i64 a) := keep (by go_cell) hb4
  have z4_x : w2.heap.size < w4.heap.size := by (have := hb4.size; (try simp at this); omega)
  have x4_x : w2.heap.size ≤ w4.heap.size := Nat.le_of_lt z4_x
  have d4_x_0 : w4.cell? ⟨w2.heap.size, 0, none⟩ = some (.int .i64 c) := keep (by go_cell) hb4
  have d4_x_1 : w4.cell? ⟨w2.heap.size, 1, none⟩ = some (.int .i64 n) := keep (by go_cell) hb4
  have d4_x_2 : w4.cell? ⟨w2.heap.size, 2, none⟩ = some (.int .i64 d) := keep (by go_cell) hb4
  have d4_x_3 : w4.cell? ⟨w2.heap.size, 3, none⟩ = some (.int .i64 X) := keep (by go_cell) hb4
  have d4_x_4 : w4.cell? ⟨w2.heap.size, 4, none⟩ = some (.int .i64 t) := keep (by go_cell) hb4
  have z4_y : w3.heap.size < w4.heap.size := by (have := hb4.size; (try simp at this); omega)
  have x4_y : w3.heap.size ≤ w4.heap.size := Nat.le_of_lt z4_y
  have d4_y_0 : w4.cell? ⟨w3.heap.size, 0, none⟩ = some (.int .i64 c) := keep (by go_cell) hb4
  have d4_y_1 : w4.cell? ⟨w3.heap.size, 1, none⟩ = some (.int .i64 n) := keep (by go_cell) hb4
  have d4_y_2 : w4.cell? ⟨w3.heap.size, 2, none⟩ = some (.int .i64 d) := keep (by go_cell) hb4
  have d4_y_3 : w4.cell? ⟨w3.heap.size, 3, none⟩ = some (.int .i64 Y) := keep (by go_cell) hb4
  have d4_y_4 : w4.cell? ⟨w3.heap.size, 4, none⟩ = some (.int .i64 u) := keep (by go_cell) hb4
  clear hb4 d3_b_0 d3_b_1 d3_b_2 d3_b_3 d3_b_4 d3_x_0 d3_x_1 d3_x_2 d3_x_3 d3_x_4
  go_upto_region 6 with (fail)
  have gc := grow_cell
  refine wp_region_quiet_below (by kernel_rfl) (by kernel_rfl) ?_
  repeat (quiet_step (first | (go_at_call 22; with_reducible exact Calls.regrown_of (C4.out _)) | (go_at_call 22; with_reducible exact Calls.regrown_of (C5.out _))))
  refine wpQuiet_nil ?_
  intro w5 hw'
  obtain ⟨⟨dq, osq⟩, hw''⟩ := hw'
  have hb5 := below_of_grow hw''
  clear hw'' gc
  have B5 : Below w.heap.size w w5 := bt (by (repeat' (first | (with_reducible exact Below.refl _ _) | (with_reducible assumption) | (with_reducible refine Below.alloc ?_ ?_ _) | (with_reducible refine Below.drew ?_) | (with_reducible refine below_dn ?_) | (with_reducible refine Below.setCell ?_ ?_ _) | (with_reducible exact Nat.le_refl _) | omega | (simp only [World.size_alloc, World.size_setCell, World.size_drew]; omega) | (simp; omega) | (simp; done)))) hb5
  have s5 : w.heap.size ≤ w5.heap.size := B5.size
  have z5_b : w.heap.size < w5.heap.size := by (have := hb5.size; (try simp at this); omega)
  have x5_b : w.heap.size ≤ w5.heap.size := Nat.le_of_lt z5_b
  have d5_b_0 : w5.cell? ⟨w.heap.size, 0, none⟩ = some (.int .i64 c) := keep (by go_cell) hb5
  have d5_b_1 : w5.cell? ⟨w.heap.size, 1, none⟩ = some (.int .i64 n) := keep (by go_cell) hb5
  have d5_b_2 : w5.cell? ⟨w.heap.size, 2, none⟩ = some (.int .i64 d) := keep (by go_cell) hb5
  have d5_b_3 : w5.cell? ⟨w.heap.size, 3, none⟩ = some (.int .i64 l) := keep (by go_cell) hb5
  have d5_b_4 : w5.cell? ⟨w.heap.size, 4, none⟩ = some (.int .i64 a) := keep (by go_cell) hb5
  have z5_x : w2.heap.size < w5.heap.size := by (have := hb5.size; (try simp at this); omega)
  have x5_x : w2.heap.size ≤ w5.heap.size := Nat.le_of_lt z5_x
  have d5_x_0 : w5.cell? ⟨w2.heap.size, 0, none⟩ = some (.int .i64 c) := keep (by go_cell) hb5
  have d5_x_1 : w5.cell? ⟨w2.heap.size, 1, none⟩ = some (.int .i64 n) := keep (by go_cell) hb5
  have d5_x_2 : w5.cell? ⟨w2.heap.size, 2, none⟩ = some (.int .i64 d) := keep (by go_cell) hb5
  have d5_x_3 : w5.cell? ⟨w2.heap.size, 3, none⟩ = some (.int .i64 X) := keep (by go_cell) hb5
  have d5_x_4 : w5.cell? ⟨w2.heap.size, 4, none⟩ = some (.int .i64 t) := keep (by go_cell) hb5
  have z5_y : w3.heap.size < w5.heap.size := by (have := hb5.size; (try simp at this); omega)
  have x5_y : w3.heap.size ≤ w5.heap.size := Nat.le_of_lt z5_y
  have d5_y_0 : w5.cell? ⟨w3.heap.size, 0, none⟩ = some (.int .i64 c) := keep (by go_cell) hb5
  have d5_y_1 : w5.cell? ⟨w3.heap.size, 1, none⟩ = some (.int .i64 n) := keep (by go_cell) hb5
  have d5_y_2 : w5.cell? ⟨w3.heap.size, 2, none⟩ = some (.int .i64 d) := keep (by go_cell) hb5
  have d5_y_3 : w5.cell? ⟨w3.heap.size, 3, none⟩ = some (.int .i64 Y) := keep (by go_cell) hb5
  have d5_y_4 : w5.cell? ⟨w3.heap.size, 4, none⟩ = some (.int .i64 u) := keep (by go_cell) hb5
  have z5_z : w4.heap.size < w5.heap.size := by (have := hb5.size; (try simp at this); omega)
  have x5_z : w4.heap.size ≤ w5.heap.size := Nat.le_of_lt z5_z
  have d5_z_0 : w5.cell? ⟨w4.heap.size, 0, none⟩ = some (.int .i64 c) := keep (by go_cell) hb5
  have d5_z_1 : w5.cell? ⟨w4.heap.size, 1, none⟩ = some (.int .i64 n) := keep (by go_cell) hb5
  have d5_z_2 : w5.cell? ⟨w4.heap.size, 2, none⟩ = some (.int .i64 d) := keep (by go_cell) hb5
  have d5_z_3 : w5.cell? ⟨w4.heap.size, 3, none⟩ = some (.int .i64 Y) := keep (by go_cell) hb5
  have d5_z_4 : w5.cell? ⟨w4.heap.size, 4, none⟩ = some (.int .i64 u) := keep (by go_cell) hb5
  clear hb5 d4_b_0 d4_b_1 d4_b_2 d4_b_3 d4_b_4 d4_x_0 d4_x_1 d4_x_2 d4_x_3 d4_x_4 d4_y_0 d4_y_1 d4_y_2 d4_y_3 d4_y_4
  go_wp2_with fail
  refine (C6.out _).mono ?_
  rintro e w6 ⟨rfl, hb6⟩
  have B6 : Below w.heap.size w w6 := bt (by (repeat' (first | (with_reducible exact Below.refl _ _) | (with_reducible assumption) | (with_reducible refine Below.alloc ?_ ?_ _) | (with_reducible refine Below.drew ?_) | (with_reducible refine below_dn ?_) | (with_reducible refine Below.setCell ?_ ?_ _) | (with_reducible exact Nat.le_refl _) | omega | (simp only [World.size_alloc, World.size_setCell, World.size_drew]; omega) | (simp; omega) | (simp; done)))) hb6
  have s6 : w.heap.size ≤ w6.heap.size := B6.size
  have z6_b : w.heap.size < w6.heap.size := by (have := hb6.size; (try simp at this); omega)
  have x6_b : w.heap.size ≤ w6.heap.size := Nat.le_of_lt z6_b
  have d6_b_0 : w6.cell? ⟨w.heap.size, 0, none⟩ = some (.int .i64 c) := keep (by go_cell) hb6
  have d6_b_1 : w6.cell? ⟨w.heap.size, 1, none⟩ = some (.int .i64 n) := keep (by go_cell) hb6
  have d6_b_2 : w6.cell? ⟨w.heap.size, 2, none⟩ = some (.int .i64 d) := keep (by go_cell) hb6
  have d6_b_3 : w6.cell? ⟨w.heap.size, 3, none⟩ = some (.int .i64 l) := keep (by go_cell) hb6
  have d6_b_4 : w6.cell? ⟨w.heap.size, 4, none⟩ = some (.int .i64 a) := keep (by go_cell) hb6
  have z6_x : w2.heap.size < w6.heap.size := by (have := hb6.size; (try simp at this); omega)
  have x6_x : w2.heap.size ≤ w6.heap.size := Nat.le_of_lt z6_x
  have d6_x_0 : w6.cell? ⟨w2.heap.size, 0, none⟩ = some (.int .i64 c) := keep (by go_cell) hb6
  have d6_x_1 : w6.cell? ⟨w2.heap.size, 1, none⟩ = some (.int .i64 n) := keep (by go_cell) hb6
  have d6_x_2 : w6.cell? ⟨w2.heap.size, 2, none⟩ = some (.int .i64 d) := keep (by go_cell) hb6
  have d6_x_3 : w6.cell? ⟨w2.heap.size, 3, none⟩ = some (.int .i64 X) := keep (by go_cell) hb6
  have d6_x_4 : w6.cell? ⟨w2.heap.size, 4, none⟩ = some (.int .i64 t) := keep (by go_cell) hb6
  have z6_y : w3.heap.size < w6.heap.size := by (have := hb6.size; (try simp at this); omega)
  have x6_y : w3.heap.size ≤ w6.heap.size := Nat.le_of_lt z6_y
  have d6_y_0 : w6.cell? ⟨w3.heap.size, 0, none⟩ = some (.int .i64 c) := keep (by go_cell) hb6
  have d6_y_1 : w6.cell? ⟨w3.heap.size, 1, none⟩ = some (.int .i64 n) := keep (by go_cell) hb6
  have d6_y_2 : w6.cell? ⟨w3.heap.size, 2, none⟩ = some (.int .i64 d) := keep (by go_cell) hb6
  have d6_y_3 : w6.cell? ⟨w3.heap.size, 3, none⟩ = some (.int .i64 Y) := keep (by go_cell) hb6
  have d6_y_4 : w6.cell? ⟨w3.heap.size, 4, none⟩ = some (.int .i64 u) := keep (by go_cell) hb6
  have z6_z : w4.heap.size < w6.heap.size := by (have := hb6.size; (try simp at this); omega)
  have x6_z : w4.heap.size ≤ w6.heap.size := Nat.le_of_lt z6_z
  have d6_z_0 : w6.cell? ⟨w4.heap.size, 0, none⟩ = some (.int .i64 c) := keep (by go_cell) hb6
  have d6_z_1 : w6.cell? ⟨w4.heap.size, 1, none⟩ = some (.int .i64 n) := keep (by go_cell) hb6
  have d6_z_2 : w6.cell? ⟨w4.heap.size, 2, none⟩ = some (.int .i64 d) := keep (by go_cell) hb6
  have d6_z_3 : w6.cell? ⟨w4.heap.size, 3, none⟩ = some (.int .i64 Y) := keep (by go_cell) hb6
  have d6_z_4 : w6.cell? ⟨w4.heap.size, 4, none⟩ = some (.int .i64 u) := keep (by go_cell) hb6
  have z6_v : w5.heap.size < w6.heap.size := by (have := hb6.size; (try simp at this); omega)
  have x6_v : w5.heap.size ≤ w6.heap.size := Nat.le_of_lt z6_v
  have d6_v_0 : w6.cell? ⟨w5.heap.size, 0, none⟩ = some (.int .i64 c) := keep (by go_cell) hb6
  have d6_v_1 : w6.cell? ⟨w5.heap.size, 1, none⟩ = some (.int .i64 n) := keep (by go_cell) hb6
  have d6_v_2 : w6.cell? ⟨w5.heap.size, 2, none⟩ = some (.int .i64 d) := keep (by go_cell) hb6
  have d6_v_3 : w6.cell? ⟨w5.heap.size, 3, none⟩ = some (.int .i64 (l - x)) := keep (by go_cell) hb6
  have d6_v_4 : w6.cell? ⟨w5.heap.size, 4, none⟩ = some (.int .i64 a) := keep (by go_cell) hb6
  clear hb6 d5_b_0 d5_b_1 d5_b_2 d5_b_3 d5_b_4 d5_x_0 d5_x_1 d5_x_2 d5_x_3 d5_x_4 d5_y_0 d5_y_1 d5_y_2 d5_y_3 d5_y_4 d5_z_0 d5_z_1 d5_z_2 d5_z_3 d5_z_4
  go_wp2_with fail
  refine (sane' _).mono ?_
  rintro e w7 ⟨rfl, hb7⟩
  have B7 : Below w.heap.size w w7 := bt (by (repeat' (first | (with_reducible exact Below.refl _ _) | (with_reducible assumption) | (with_reducible refine Below.alloc ?_ ?_ _) | (with_reducible refine Below.drew ?_) | (with_reducible refine below_dn ?_) | (with_reducible refine Below.setCell ?_ ?_ _) | (with_reducible exact Nat.le_refl _) | omega | (simp only [World.size_alloc, World.size_setCell, World.size_drew]; omega) | (simp; omega) | (simp; done)))) hb7
  have s7 : w.heap.size ≤ w7.heap.size := B7.size
  have z7_b : w.heap.size < w7.heap.size := by (have := hb7.size; (try simp at this); omega)
  have x7_b : w.heap.size ≤ w7.heap.size := Nat.le_of_lt z7_b
  have d7_b_0 : w7.cell? ⟨w.heap.size, 0, none⟩ = some (.int .i64 c) := keep (by go_cell) hb7
  have d7_b_1 : w7.cell? ⟨w.heap.size, 1, none⟩ = some (.int .i64 n) := keep (by go_cell) hb7
  have d7_b_2 : w7.cell? ⟨w.heap.size, 2, none⟩ = some (.int .i64 d) := keep (by go_cell) hb7
  have d7_b_3 : w7.cell? ⟨w.heap.size, 3, none⟩ = some (.int .i64 l) := keep (by go_cell) hb7
  have d7_b_4 : w7.cell? ⟨w.heap.size, 4, none⟩ = some (.int .i64 a) := keep (by go_cell) hb7
  have z7_x : w2.heap.size < w7.heap.size := by (have := hb7.size; (try simp at this); omega)
  have x7_x : w2.heap.size ≤ w7.heap.size := Nat.le_of_lt z7_x
  have d7_x_0 : w7.cell? ⟨w2.heap.size, 0, none⟩ = some (.int .i64 c) := keep (by go_cell) hb7
  have d7_x_1 : w7.cell? ⟨w2.heap.size, 1, none⟩ = some (.int .i64 n) := keep (by go_cell) hb7
  have d7_x_2 : w7.cell? ⟨w2.heap.size, 2, none⟩ = some (.int .i64 d) := keep (by go_cell) hb7
  have d7_x_3 : w7.cell? ⟨w2.heap.size, 3, none⟩ = some (.int .i64 X) := keep (by go_cell) hb7
  have d7_x_4 : w7.cell? ⟨w2.heap.size, 4, none⟩ = some (.int .i64 t) := keep (by go_cell) hb7
  have z7_y : w3.heap.size < w7.heap.size := by (have := hb7.size; (try simp at this); omega)
  have x7_y : w3.heap.size ≤ w7.heap.size := Nat.le_of_lt z7_y
  have d7_y_0 : w7.cell? ⟨w3.heap.size, 0, none⟩ = some (.int .i64 c) := keep (by go_cell) hb7
  have d7_y_1 : w7.cell? ⟨w3.heap.size, 1, none⟩ = some (.int .i64 n) := keep (by go_cell) hb7
  have d7_y_2 : w7.cell? ⟨w3.heap.size, 2, none⟩ = some (.int .i64 d) := keep (by go_cell) hb7
  have d7_y_3 : w7.cell? ⟨w3.heap.size, 3, none⟩ = some (.int .i64 Y) := keep (by go_cell) hb7
  have d7_y_4 : w7.cell? ⟨w3.heap.size, 4, none⟩ = some (.int .i64 u) := keep (by go_cell) hb7
  have z7_z : w4.heap.size < w7.heap.size := by (have := hb7.size; (try simp at this); omega)
  have x7_z : w4.heap.size ≤ w7.heap.size := Nat.le_of_lt z7_z
  have d7_z_0 : w7.cell? ⟨w4.heap.size, 0, none⟩ = some (.int .i64 c) := keep (by go_cell) hb7
  have d7_z_1 : w7.cell? ⟨w4.heap.size, 1, none⟩ = some (.int .i64 n) := keep (by go_cell) hb7
  have d7_z_2 : w7.cell? ⟨w4.heap.size, 2, none⟩ = some (.int .i64 d) := keep (by go_cell) hb7
  have d7_z_3 : w7.cell? ⟨w4.heap.size, 3, none⟩ = some (.int .i64 Y) := keep (by go_cell) hb7
  have d7_z_4 : w7.cell? ⟨w4.heap.size, 4, none⟩ = some (.int .i64 u) := keep (by go_cell) hb7
  have z7_v : w5.heap.size < w7.heap.size := by (have := hb7.size; (try simp at this); omega)
  have x7_v : w5.heap.size ≤ w7.heap.size := Nat.le_of_lt z7_v
  have d7_v_0 : w7.cell? ⟨w5.heap.size, 0, none⟩ = some (.int .i64 c) := keep (by go_cell) hb7
  have d7_v_1 : w7.cell? ⟨w5.heap.size, 1, none⟩ = some (.int .i64 n) := keep (by go_cell) hb7
  have d7_v_2 : w7.cell? ⟨w5.heap.size, 2, none⟩ = some (.int .i64 d) := keep (by go_cell) hb7
  have d7_v_3 : w7.cell? ⟨w5.heap.size, 3, none⟩ = some (.int .i64 (l - x)) := keep (by go_cell) hb7
  have d7_v_4 : w7.cell? ⟨w5.heap.size, 4, none⟩ = some (.int .i64 a) := keep (by go_cell) hb7
  have z7_k : w6.heap.size < w7.heap.size := by (have := hb7.size; (try simp at this); omega)
  have x7_k : w6.heap.size ≤ w7.heap.size := Nat.le_of_lt z7_k
  have d7_k_0 : w7.cell? ⟨w6.heap.size, 0, none⟩ = some (.int .i64 c) := keep (by go_cell) hb7
  have d7_k_1 : w7.cell? ⟨w6.heap.size, 1, none⟩ = some (.int .i64 n) := keep (by go_cell) hb7
  have d7_k_2 : w7.cell? ⟨w6.heap.size, 2, none⟩ = some (.int .i64 d) := keep (by go_cell) hb7
  have d7_k_3 : w7.cell? ⟨w6.heap.size, 3, none⟩ = some (.int .i64 Z) := keep (by go_cell) hb7
  have d7_k_4 : w7.cell? ⟨w6.heap.size, 4, none⟩ = some (.int .i64 u) := keep (by go_cell) hb7
  clear hb7 d6_b_0 d6_b_1 d6_b_2 d6_b_3 d6_b_4 d6_x_0 d6_x_1 d6_x_2 d6_x_3 d6_x_4 d6_y_0 d6_y_1 d6_y_2 d6_y_3 d6_y_4 d6_z_0 d6_z_1 d6_z_2 d6_z_3 d6_z_4 d6_v_0 d6_v_1 d6_v_2 d6_v_3 d6_v_4
  go_wp2
  all_goals
    go_ret
    exact ⟨ret_bool (by first | rfl | (apply decide_eq_true; omega) | (simp; omega)), by (repeat' (first | (with_reducible exact Below.refl _ _) | (with_reducible assumption) | (with_reducible refine Below.alloc ?_ ?_ _) | (with_reducible refine Below.drew ?_) | (with_reducible refine below_dn ?_) | (with_reducible refine Below.setCell ?_ ?_ _) | (with_reducible exact Nat.le_refl _) | omega | (simp only [World.size_alloc, World.size_setCell, World.size_drew]; omega) | (simp; omega) | (simp; done)))⟩
theorem refillsInSteps (c n d l a t u x : Int) (w : World) :
    Calls Try.prog 7 #[bk c n d l a, .int .i64 t, .int .i64 u, .int .i64 x] w fun e w' => e = .returned (.bool true) ∧ Below w.heap.size w w' := by
  by_cases h : OkB c n d l a
  · by_cases k : t < a ∨ u < t ∨ 1099511627776 < u
    · exact steps_time _ _ _ _ _ _ _ _ _ h k
    · by_cases k4 : x < 0 ∨ l < x
      · exact steps_out _ _ _ _ _ _ _ _ _ h (by omega) (by omega) (by omega) k4
      · exact steps_in _ _ _ _ _ _ _ _ _ h (by omega) (by omega) (by omega) (by omega) (by omega)
  · exact steps_bad _ _ _ _ _ _ _ _ _ h
end Go.Proofs.Ytigalbgailnicaa
