import Derived.Test.YtnojnfmhinjcpaaN
namespace Go.Proofs.Ytnojnfmhinjcpaa
set_option linter.unusedVariables false
set_option linter.unusedSimpArgs false
open Go.RowKit Go.Sort
set_option maxHeartbeats 1000000 in
theorem reads_bad (l lo hi d x a b : Int) (w : World) (hs : ∀ W, Sane W) (h : chkB l lo hi d = false) :
    Calls Try.prog 4 #[clk l lo hi d, .int .i64 x, per a b] w fun e w' => e = .returned (.bool true) ∧ Below w.heap.size w w' := by
  have HS := Lib.hid hs; clear hs
  have H := Lib.hid h; clear h
  go_enter Try.func4, Try.ntmps4
  go_wp2_with fail
  refine (new_no _ _ _ _ _ H.out).mono ?_
  rintro e w1 ⟨rfl, hb1⟩
  have B1 : Below w.heap.size w w1 := bt (by (repeat' (first | (with_reducible exact Below.refl _ _) | (with_reducible assumption) | (with_reducible refine Below.alloc ?_ ?_ _) | (with_reducible refine Below.drew ?_) | (with_reducible refine below_dn ?_) | (with_reducible refine Below.setCell ?_ ?_ _) | (with_reducible exact Nat.le_refl _) | omega | (simp only [World.size_alloc, World.size_setCell, World.size_drew]; omega) | (simp; omega) | (simp; done)))) hb1
  have s1 : w.heap.size ≤ w1.heap.size := B1.size
  have z1_c : w.heap.size < w1.heap.size := by (have := hb1.size; (try simp at this); omega)
  have x1_c : w.heap.size ≤ w1.heap.size := Nat.le_of_lt z1_c
  have d1_c_0 : w1.cell? ⟨w.heap.size, 0, none⟩ = some (.int .i64 l) := keep (by go_cell) hb1
  have d1_c_1 : w1.cell? ⟨w.heap.size, 1, none⟩ = some (.int .i64 lo) := keep (by go_cell) hb1
  have d1_c_2 : w1.cell? ⟨w.heap.size, 2, none⟩ = some (.int .i64 hi) := keep (by go_cell) hb1
  have d1_c_3 : w1.cell? ⟨w.heap.size, 3, none⟩ = some (.int .i64 d) := keep (by go_cell) hb1
  have z1_p : w.heap.size + 1 < w1.heap.size := by (have := hb1.size; (try simp at this); omega)
  have x1_p : w.heap.size + 1 ≤ w1.heap.size := Nat.le_of_lt z1_p
  have d1_p_0 : w1.cell? ⟨w.heap.size + 1, 0, none⟩ = some (.int .i64 a) := keep (by go_cell) hb1
  have d1_p_1 : w1.cell? ⟨w.heap.size + 1, 1, none⟩ = some (.int .i64 b) := keep (by go_cell) hb1
  clear hb1
  go_wp2_with fail
  refine (checkref_no _ _ _ _ _ H.out).mono ?_
  rintro e w2 ⟨rfl, hb2⟩
  have B2 : Below w.heap.size w w2 := bt (by (repeat' (first | (with_reducible exact Below.refl _ _) | (with_reducible assumption) | (with_reducible refine Below.alloc ?_ ?_ _) | (with_reducible refine Below.drew ?_) | (with_reducible refine below_dn ?_) | (with_reducible refine Below.setCell ?_ ?_ _) | (with_reducible exact Nat.le_refl _) | omega | (simp only [World.size_alloc, World.size_setCell, World.size_drew]; omega) | (simp; omega) | (simp; done)))) hb2
  have s2 : w.heap.size ≤ w2.heap.size := B2.size
  have z2_c : w.heap.size < w2.heap.size := by (have := hb2.size; (try simp at this); omega)
  have x2_c : w.heap.size ≤ w2.heap.size := Nat.le_of_lt z2_c
  have d2_c_0 : w2.cell? ⟨w.heap.size, 0, none⟩ = some (.int .i64 l) := keep (by go_cell) hb2
  have d2_c_1 : w2.cell? ⟨w.heap.size, 1, none⟩ = some (.int .i64 lo) := keep (by go_cell) hb2
  have d2_c_2 : w2.cell? ⟨w.heap.size, 2, none⟩ = some (.int .i64 hi) := keep (by go_cell) hb2
  have d2_c_3 : w2.cell? ⟨w.heap.size, 3, none⟩ = some (.int .i64 d) := keep (by go_cell) hb2
  have z2_p : w.heap.size + 1 < w2.heap.size := by (have := hb2.size; (try simp at this); omega)
  have x2_p : w.heap.size + 1 ≤ w2.heap.size := Nat.le_of_lt z2_p
  have d2_p_0 : w2.cell? ⟨w.heap.size + 1, 0, none⟩ = some (.int .i64 a) := keep (by go_cell) hb2
  have d2_p_1 : w2.cell? ⟨w.heap.size + 1, 1, none⟩ = some (.int .i64 b) := keep (by go_cell) hb2
  have z2_x : w1.heap.size < w2.heap.size := by (have := hb2.size; (try simp at this); omega)
  have x2_x : w1.heap.size ≤ w2.heap.size := Nat.le_of_lt z2_x
  have d2_x_0 : w2.cell? ⟨w1.heap.size, 0, none⟩ = some (.int .i64 0) := keep (by go_cell) hb2
  have d2_x_1 : w2.cell? ⟨w1.heap.size, 1, none⟩ = some (.int .i64 0) := keep (by go_cell) hb2
  have d2_x_2 : w2.cell? ⟨w1.heap.size, 2, none⟩ = some (.int .i64 0) := keep (by go_cell) hb2
  have d2_x_3 : w2.cell? ⟨w1.heap.size, 3, none⟩ = some (.int .i64 0) := keep (by go_cell) hb2
  clear hb2 d1_c_0 d1_c_1 d1_c_2 d1_c_3 d1_p_0 d1_p_1
  go_wp2_with fail
  refine (check_no _ _ _ _ _ H.out).mono ?_
  rintro e w3 ⟨rfl, hb3⟩
  have B3 : Below w.heap.size w w3 := bt (by (repeat' (first | (with_reducible exact Below.refl _ _) | (with_reducible assumption) | (with_reducible refine Below.alloc ?_ ?_ _) | (with_reducible refine Below.drew ?_) | (with_reducible refine below_dn ?_) | (with_reducible refine Below.setCell ?_ ?_ _) | (with_reducible exact Nat.le_refl _) | omega | (simp only [World.size_alloc, World.size_setCell, World.size_drew]; omega) | (simp; omega) | (simp; done)))) hb3
  have s3 : w.heap.size ≤ w3.heap.size := B3.size
  have z3_c : w.heap.size < w3.heap.size := by (have := hb3.size; (try simp at this); omega)
  have x3_c : w.heap.size ≤ w3.heap.size := Nat.le_of_lt z3_c
  have d3_c_0 : w3.cell? ⟨w.heap.size, 0, none⟩ = some (.int .i64 l) := keep (by go_cell) hb3
  have d3_c_1 : w3.cell? ⟨w.heap.size, 1, none⟩ = some (.int .i64 lo) := keep (by go_cell) hb3
  have d3_c_2 : w3.cell? ⟨w.heap.size, 2, none⟩ = some (.int .i64 hi) := keep (by go_cell) hb3
  have d3_c_3 : w3.cell? ⟨w.heap.size, 3, none⟩ = some (.int .i64 d) := keep (by go_cell) hb3
  have z3_p : w.heap.size + 1 < w3.heap.size := by (have := hb3.size; (try simp at this); omega)
  have x3_p : w.heap.size + 1 ≤ w3.heap.size := Nat.le_of_lt z3_p
  have d3_p_0 : w3.cell? ⟨w.heap.size + 1, 0, none⟩ = some (.int .i64 a) := keep (by go_cell) hb3
  have d3_p_1 : w3.cell? ⟨w.heap.size + 1, 1, none⟩ = some (.int .i64 b) := keep (by go_cell) hb3
  have z3_x : w1.heap.size < w3.heap.size := by (have := hb3.size; (try simp at this); omega)
  have x3_x : w1.heap.size ≤ w3.heap.size := Nat.le_of_lt z3_x
  have d3_x_0 : w3.cell? ⟨w1.heap.size, 0, none⟩ = some (.int .i64 0) := keep (by go_cell) hb3
  have d3_x_1 : w3.cell? ⟨w1.heap.size, 1, none⟩ = some (.int .i64 0) := keep (by go_cell) hb3
  have d3_x_2 : w3.cell? ⟨w1.heap.size, 2, none⟩ = some (.int .i64 0) := keep (by go_cell) hb3
  have d3_x_3 : w3.cell? ⟨w1.heap.size, 3, none⟩ = some (.int .i64 0) := keep (by go_cell) hb3
  clear hb3 d2_c_0 d2_c_1 d2_c_2 d2_c_3 d2_p_0 d2_p_1 d2_x_0 d2_x_1 d2_x_2 d2_x_3
  go_wp2_with fail
  refine (HS.out _).mono ?_
  rintro e w4 ⟨rfl, hb4⟩
  have B4 : Below w.heap.size w w4 := bt (by (repeat' (first | (with_reducible exact Below.refl _ _) | (with_reducible assumption) | (with_reducible refine Below.alloc ?_ ?_ _) | (with_reducible refine Below.drew ?_) | (with_reducible refine below_dn ?_) | (with_reducible refine Below.setCell ?_ ?_ _) | (with_reducible exact Nat.le_refl _) | omega | (simp only [World.size_alloc, World.size_setCell, World.size_drew]; omega) | (simp; omega) | (simp; done)))) hb4
  have s4 : w.heap.size ≤ w4.heap.size := B4.size
  have z4_c : w.heap.size < w4.heap.size := by (have := hb4.size; (try simp at this); omega)
  have x4_c : w.heap.size ≤ w4.heap.size := Nat.le_of_lt z4_c
  have d4_c_0 : w4.cell? ⟨w.heap.size, 0, none⟩ = some (.int .i64 l) := keep (by go_cell) hb4
  have d4_c_1 : w4.cell? ⟨w.heap.size, 1, none⟩ = some (.int .i64 lo) := keep (by go_cell) hb4
  have d4_c_2 : w4.cell? ⟨w.heap.size, 2, none⟩ = some (.int .i64 hi) := keep (by go_cell) hb4
  have d4_c_3 : w4.cell? ⟨w.heap.size, 3, none⟩ = some (.int .i64 d) := keep (by go_cell) hb4
  have z4_p : w.heap.size + 1 < w4.heap.size := by (have := hb4.size; (try simp at this); omega)
  have x4_p : w.heap.size + 1 ≤ w4.heap.size := Nat.le_of_lt z4_p
  have d4_p_0 : w4.cell? ⟨w.heap.size + 1, 0, none⟩ = some (.int .i64 a) := keep (by go_cell) hb4
  have d4_p_1 : w4.cell? ⟨w.heap.size + 1, 1, none⟩ = some (.int .i64 b) := keep (by go_cell) hb4
  have z4_x : w1.heap.size < w4.heap.size := by (have := hb4.size; (try simp at this); omega)
  have x4_x : w1.heap.size ≤ w4.heap.size := Nat.le_of_lt z4_x
  have d4_x_0 : w4.cell? ⟨w1.heap.size, 0, none⟩ = some (.int .i64 0) := keep (by go_cell) hb4
  have d4_x_1 : w4.cell? ⟨w1.heap.size, 1, none⟩ = some (.int .i64 0) := keep (by go_cell) hb4
  have d4_x_2 : w4.cell? ⟨w1.heap.size, 2, none⟩ = some (.int .i64 0) := keep (by go_cell) hb4
  have d4_x_3 : w4.cell? ⟨w1.heap.size, 3, none⟩ = some (.int .i64 0) := keep (by go_cell) hb4
  clear hb4 d3_c_0 d3_c_1 d3_c_2 d3_c_3 d3_p_0 d3_p_1 d3_x_0 d3_x_1 d3_x_2 d3_x_3
  go_wp2
  all_goals
    go_ret
    exact ⟨ret_bool (by first | rfl | (apply decide_eq_true; omega) | (simp; omega)), by (repeat' (first | (with_reducible exact Below.refl _ _) | (with_reducible assumption) | (with_reducible refine Below.alloc ?_ ?_ _) | (with_reducible refine Below.drew ?_) | (with_reducible refine below_dn ?_) | (with_reducible refine Below.setCell ?_ ?_ _) | (with_reducible exact Nat.le_refl _) | omega | (simp only [World.size_alloc, World.size_setCell, World.size_drew]; omega) | (simp; omega) | (simp; done)))⟩
set_option maxHeartbeats 2000000 in
theorem reads_good (l lo hi d x a b : Int) (w : World) (hs : ∀ W, Sane W) (h : OkClk l lo hi d) :
    Calls Try.prog 4 #[clk l lo hi d, .int .i64 x, per a b] w fun e w' => e = .returned (.bool true) ∧ Below w.heap.size w w' := by
  have HS := Lib.hid hs; clear hs
  have H := Lib.hid h; clear h
  obtain ⟨rA, hA⟩ : ∃ z, rdA l lo d x = z := ⟨_, rfl⟩
  obtain ⟨rB, hB⟩ : ∃ z, rdB l hi d x = z := ⟨_, rfl⟩
  obtain ⟨rE, hE⟩ : ∃ z, rdE l x = z := ⟨_, rfl⟩
  obtain ⟨sL, hL⟩ : ∃ z, synL l lo hi d x a b = z := ⟨_, rfl⟩
  obtain ⟨sA, hSA⟩ : ∃ z, synA l lo hi d x a b = z := ⟨_, rfl⟩
  obtain ⟨sB, hSB⟩ : ∃ z, synB l lo hi d x a b = z := ⟨_, rfl⟩
  obtain ⟨sD, hSD⟩ : ∃ z, synD l lo hi d x a b = z := ⟨_, rfl⟩
  obtain ⟨sE, hSE⟩ : ∃ z, synE l lo hi d x a b = z := ⟨_, rfl⟩
  have c1 := fun W : World => read_fn l lo hi d x W H.out
  have c2 := fun W : World => readref_fn l lo hi d x W H.out
  have c3 := fun W : World => sync_fn l lo hi d x a b W H.out
  have c4 := fun W : World => syncref_fn l lo hi d x a b W H.out
  rw [hA, hB, hE] at c1 c2
  rw [hL, hSA, hSB, hSD, hSE] at c3 c4
  have C1 := Lib.hid c1; have C2 := Lib.hid c2; have C3 := Lib.hid c3; have C4 := Lib.hid c4
  clear c1 c2 c3 c4 hA hB hE hL hSA hSB hSD hSE
  go_enter Try.func4, Try.ntmps4
  go_wp2_with fail
  refine (new_yes _ _ _ _ _ H.out).mono ?_
  rintro e w1 ⟨rfl, hb1⟩
  have B1 : Below w.heap.size w w1 := bt (by (repeat' (first | (with_reducible exact Below.refl _ _) | (with_reducible assumption) | (with_reducible refine Below.alloc ?_ ?_ _) | (with_reducible refine Below.drew ?_) | (with_reducible refine below_dn ?_) | (with_reducible refine Below.setCell ?_ ?_ _) | (with_reducible exact Nat.le_refl _) | omega | (simp only [World.size_alloc, World.size_setCell, World.size_drew]; omega) | (simp; omega) | (simp; done)))) hb1
  have s1 : w.heap.size ≤ w1.heap.size := B1.size
  have z1_c : w.heap.size < w1.heap.size := by (have := hb1.size; (try simp at this); omega)
  have x1_c : w.heap.size ≤ w1.heap.size := Nat.le_of_lt z1_c
  have d1_c_0 : w1.cell? ⟨w.heap.size, 0, none⟩ = some (.int .i64 l) := keep (by go_cell) hb1
  have d1_c_1 : w1.cell? ⟨w.heap.size, 1, none⟩ = some (.int .i64 lo) := keep (by go_cell) hb1
  have d1_c_2 : w1.cell? ⟨w.heap.size, 2, none⟩ = some (.int .i64 hi) := keep (by go_cell) hb1
  have d1_c_3 : w1.cell? ⟨w.heap.size, 3, none⟩ = some (.int .i64 d) := keep (by go_cell) hb1
  have z1_p : w.heap.size + 1 < w1.heap.size := by (have := hb1.size; (try simp at this); omega)
  have x1_p : w.heap.size + 1 ≤ w1.heap.size := Nat.le_of_lt z1_p
  have d1_p_0 : w1.cell? ⟨w.heap.size + 1, 0, none⟩ = some (.int .i64 a) := keep (by go_cell) hb1
  have d1_p_1 : w1.cell? ⟨w.heap.size + 1, 1, none⟩ = some (.int .i64 b) := keep (by go_cell) hb1
  clear hb1
  go_wp2_with fail
  refine (checkref_yes _ _ _ _ _ H.out).mono ?_
  rintro e w2 ⟨rfl, hb2⟩
  have B2 : Below w.heap.size w w2 := bt (by (repeat' (first | (with_reducible exact Below.refl _ _) | (with_reducible assumption) | (with_reducible refine Below.alloc ?_ ?_ _) | (with_reducible refine Below.drew ?_) | (with_reducible refine below_dn ?_) | (with_reducible refine Below.setCell ?_ ?_ _) | (with_reducible exact Nat.le_refl _) | omega | (simp only [World.size_alloc, World.size_setCell, World.size_drew]; omega) | (simp; omega) | (simp; done)))) hb2
  have s2 : w.heap.size ≤ w2.heap.size := B2.size
  have z2_c : w.heap.size < w2.heap.size := by (have := hb2.size; (try simp at this); omega)
  have x2_c : w.heap.size ≤ w2.heap.size := Nat.le_of_lt z2_c
  have d2_c_0 : w2.cell? ⟨w.heap.size, 0, none⟩ = some (.int .i64 l) := keep (by go_cell) hb2
  have d2_c_1 : w2.cell? ⟨w.heap.size, 1, none⟩ = some (.int .i64 lo) := keep (by go_cell) hb2
  have d2_c_2 : w2.cell? ⟨w.heap.size, 2, none⟩ = some (.int .i64 hi) := keep (by go_cell) hb2
  have d2_c_3 : w2.cell? ⟨w.heap.size, 3, none⟩ = some (.int .i64 d) := keep (by go_cell) hb2
  have z2_p : w.heap.size + 1 < w2.heap.size := by (have := hb2.size; (try simp at this); omega)
  have x2_p : w.heap.size + 1 ≤ w2.heap.size := Nat.le_of_lt z2_p
  have d2_p_0 : w2.cell? ⟨w.heap.size + 1, 0, none⟩ = some (.int .i64 a) := keep (by go_cell) hb2
  have d2_p_1 : w2.cell? ⟨w.heap.size + 1, 1, none⟩ = some (.int .i64 b) := keep (by go_cell) hb2
  have z2_x : w1.heap.size < w2.heap.size := by (have := hb2.size; (try simp at this); omega)
  have x2_x : w1.heap.size ≤ w2.heap.size := Nat.le_of_lt z2_x
  have d2_x_0 : w2.cell? ⟨w1.heap.size, 0, none⟩ = some (.int .i64 l) := keep (by go_cell) hb2
  have d2_x_1 : w2.cell? ⟨w1.heap.size, 1, none⟩ = some (.int .i64 lo) := keep (by go_cell) hb2
  have d2_x_2 : w2.cell? ⟨w1.heap.size, 2, none⟩ = some (.int .i64 hi) := keep (by go_cell) hb2
  have d2_x_3 : w2.cell? ⟨w1.heap.size, 3, none⟩ = some (.int .i64 d) := keep (by go_cell) hb2
  clear hb2 d1_c_0 d1_c_1 d1_c_2 d1_c_3 d1_p_0 d1_p_1
  go_wp2_with fail
  refine (check_yes _ _ _ _ _ H.out).mono ?_
  rintro e w3 ⟨rfl, hb3⟩
  have B3 : Below w.heap.size w w3 := bt (by (repeat' (first | (with_reducible exact Below.refl _ _) | (with_reducible assumption) | (with_reducible refine Below.alloc ?_ ?_ _) | (with_reducible refine Below.drew ?_) | (with_reducible refine below_dn ?_) | (with_reducible refine Below.setCell ?_ ?_ _) | (with_reducible exact Nat.le_refl _) | omega | (simp only [World.size_alloc, World.size_setCell, World.size_drew]; omega) | (simp; omega) | (simp; done)))) hb3
  have s3 : w.heap.size ≤ w3.heap.size := B3.size
  have z3_c : w.heap.size < w3.heap.size := by (have := hb3.size; (try simp at this); omega)
  have x3_c : w.heap.size ≤ w3.heap.size := Nat.le_of_lt z3_c
  have d3_c_0 : w3.cell? ⟨w.heap.size, 0, none⟩ = some (.int .i64 l) := keep (by go_cell) hb3
  have d3_c_1 : w3.cell? ⟨w.heap.size, 1, none⟩ = some (.int .i64 lo) := keep (by go_cell) hb3
  have d3_c_2 : w3.cell? ⟨w.heap.size, 2, none⟩ = some (.int .i64 hi) := keep (by go_cell) hb3
  have d3_c_3 : w3.cell? ⟨w.heap.size, 3, none⟩ = some (.int .i64 d) := keep (by go_cell) hb3
  have z3_p : w.heap.size + 1 < w3.heap.size := by (have := hb3.size; (try simp at this); omega)
  have x3_p : w.heap.size + 1 ≤ w3.heap.size := Nat.le_of_lt z3_p
  have d3_p_0 : w3.cell? ⟨w.heap.size + 1, 0, none⟩ = some (.int .i64 a) := keep (by go_cell) hb3
  have d3_p_1 : w3.cell? ⟨w.heap.size + 1, 1, none⟩ = some (.int .i64 b) := keep (by go_cell) hb3
  have z3_x : w1.heap.size < w3.heap.size := by (have := hb3.size; (try simp at this); omega)
  have x3_x : w1.heap.size ≤ w3.heap.size := Nat.le_of_lt z3_x
  have d3_x_0 : w3.cell? ⟨w1.heap.size, 0, none⟩ = some (.int .i64 l) := keep (by go_cell) hb3
  have d3_x_1 : w3.cell? ⟨w1.heap.size, 1, none⟩ = some (.int .i64 lo) := keep (by go_cell) hb3
  have d3_x_2 : w3.cell? ⟨w1.heap.size, 2, none⟩ = some (.int .i64 hi) := keep (by go_cell) hb3
  have d3_x_3 : w3.cell? ⟨w1.heap.size, 3, none⟩ = some (.int .i64 d) := keep (by go_cell) hb3
  clear hb3 d2_c_0 d2_c_1 d2_c_2 d2_c_3 d2_p_0 d2_p_1 d2_x_0 d2_x_1 d2_x_2 d2_x_3
  go_wp2_with fail
  refine (C1.out _).mono ?_
  rintro e w4 ⟨rfl, hb4⟩
  have B4 : Below w.heap.size w w4 := bt (by (repeat' (first | (with_reducible exact Below.refl _ _) | (with_reducible assumption) | (with_reducible refine Below.alloc ?_ ?_ _) | (with_reducible refine Below.drew ?_) | (with_reducible refine below_dn ?_) | (with_reducible refine Below.setCell ?_ ?_ _) | (with_reducible exact Nat.le_refl _) | omega | (simp only [World.size_alloc, World.size_setCell, World.size_drew]; omega) | (simp; omega) | (simp; done)))) hb4
  have s4 : w.heap.size ≤ w4.heap.size := B4.size
  have z4_c : w.heap.size < w4.heap.size := by (have := hb4.size; (try simp at this); omega)
  have x4_c : w.heap.size ≤ w4.heap.size := Nat.le_of_lt z4_c
  have d4_c_0 : w4.cell? ⟨w.heap.size, 0, none⟩ = some (.int .i64 l) := keep (by go_cell) hb4
  have d4_c_1 : w4.cell? ⟨w.heap.size, 1, none⟩ = some (.int .i64 lo) := keep (by go_cell) hb4
  have d4_c_2 : w4.cell? ⟨w.heap.size, 2, none⟩ = some (.int .i64 hi) := keep (by go_cell) hb4
  have d4_c_3 : w4.cell? ⟨w.heap.size, 3, none⟩ = some (.int .i64 d) := keep (by go_cell) hb4
  have z4_p : w.heap.size + 1 < w4.heap.size := by (have := hb4.size; (try simp at this); omega)
  have x4_p : w.heap.size + 1 ≤ w4.heap.size := Nat.le_of_lt z4_p
  have d4_p_0 : w4.cell? ⟨w.heap.size + 1, 0, none⟩ = some (.int .i64 a) := keep (by go_cell) hb4
  have d4_p_1 : w4.cell? ⟨w.heap.size + 1, 1, none⟩ = some (.int .i64 b) := keep (by go_cell) hb4
  have z4_x : w1.heap.size < w4.heap.size := by (have := hb4.size; (try simp at this); omega)
  have x4_x : w1.heap.size ≤ w4.heap.size := Nat.le_of_lt z4_x
  have d4_x_0 : w4.cell? ⟨w1.heap.size, 0, none⟩ = some (.int .i64 l) := keep (by go_cell) hb4
  have d4_x_1 : w4.cell? ⟨w1.heap.size, 1, none⟩ = some (.int .i64 lo) := keep (by go_cell) hb4
  have d4_x_2 : w4.cell? ⟨w1.heap.size, 2, none⟩ = some (.int .i64 hi) := keep (by go_cell) hb4
  have d4_x_3 : w4.cell? ⟨w1.heap.size, 3, none⟩ = some (.int .i64 d) := keep (by go_cell) hb4
  clear hb4 d3_c_0 d3_c_1 d3_c_2 d3_c_3 d3_p_0 d3_p_1 d3_x_0 d3_x_1 d3_x_2 d3_x_3
  go_wp2_with fail
  refine (C2.out _).mono ?_
  rintro e w5 ⟨rfl, hb5⟩
  have B5 : Below w.heap.size w w5 := bt (by (repeat' (first | (with_reducible exact Below.refl _ _) | (with_reducible assumption) | (with_reducible refine Below.alloc ?_ ?_ _) | (with_reducible refine Below.drew ?_) | (with_reducible refine below_dn ?_) | (with_reducible refine Below.setCell ?_ ?_ _) | (with_reducible exact Nat.le_refl _) | omega | (simp only [World.size_alloc, World.size_setCell, World.size_drew]; omega) | (simp; omega) | (simp; done)))) hb5
  have s5 : w.heap.size ≤ w5.heap.size := B5.size
  have z5_c : w.heap.size < w5.heap.size := by (have := hb5.size; (try simp at this); omega)
  have x5_c : w.heap.size ≤ w5.heap.size := Nat.le_of_lt z5_c
  have d5_c_0 : w5.cell? ⟨w.heap.size, 0, none⟩ = some (.int .i64 l) := keep (by go_cell) hb5
  have d5_c_1 : w5.cell? ⟨w.heap.size, 1, none⟩ = some (.int .i64 lo) := keep (by go_cell) hb5
  have d5_c_2 : w5.cell? ⟨w.heap.size, 2, none⟩ = some (.int .i64 hi) := keep (by go_cell) hb5
  have d5_c_3 : w5.cell? ⟨w.heap.size, 3, none⟩ = some (.int .i64 d) := keep (by go_cell) hb5
  have z5_p : w.heap.size + 1 < w5.heap.size := by (have := hb5.size; (try simp at this); omega)
  have x5_p : w.heap.size + 1 ≤ w5.heap.size := Nat.le_of_lt z5_p
  have d5_p_0 : w5.cell? ⟨w.heap.size + 1, 0, none⟩ = some (.int .i64 a) := keep (by go_cell) hb5
  have d5_p_1 : w5.cell? ⟨w.heap.size + 1, 1, none⟩ = some (.int .i64 b) := keep (by go_cell) hb5
  have z5_x : w1.heap.size < w5.heap.size := by (have := hb5.size; (try simp at this); omega)
  have x5_x : w1.heap.size ≤ w5.heap.size := Nat.le_of_lt z5_x
  have d5_x_0 : w5.cell? ⟨w1.heap.size, 0, none⟩ = some (.int .i64 l) := keep (by go_cell) hb5
  have d5_x_1 : w5.cell? ⟨w1.heap.size, 1, none⟩ = some (.int .i64 lo) := keep (by go_cell) hb5
  have d5_x_2 : w5.cell? ⟨w1.heap.size, 2, none⟩ = some (.int .i64 hi) := keep (by go_cell) hb5
  have d5_x_3 : w5.cell? ⟨w1.heap.size, 3, none⟩ = some (.int .i64 d) := keep (by go_cell) hb5
  have z5_r : w4.heap.size < w5.heap.size := by (have := hb5.size; (try simp at this); omega)
  have x5_r : w4.heap.size ≤ w5.heap.size := Nat.le_of_lt z5_r
  have d5_r_0 : w5.cell? ⟨w4.heap.size, 0, none⟩ = some (.int .i64 rA) := keep (by go_cell) hb5
  have d5_r_1 : w5.cell? ⟨w4.heap.size, 1, none⟩ = some (.int .i64 rB) := keep (by go_cell) hb5
  clear hb5 d4_c_0 d4_c_1 d4_c_2 d4_c_3 d4_p_0 d4_p_1 d4_x_0 d4_x_1 d4_x_2 d4_x_3
  go_wp2_with fail
  refine (C3.out _).mono ?_
  rintro e w6 ⟨rfl, hb6⟩
  have B6 : Below w.heap.size w w6 := bt (by (repeat' (first | (with_reducible exact Below.refl _ _) | (with_reducible assumption) | (with_reducible refine Below.alloc ?_ ?_ _) | (with_reducible refine Below.drew ?_) | (with_reducible refine below_dn ?_) | (with_reducible refine Below.setCell ?_ ?_ _) | (with_reducible exact Nat.le_refl _) | omega | (simp only [World.size_alloc, World.size_setCell, World.size_drew]; omega) | (simp; omega) | (simp; done)))) hb6
  have s6 : w.heap.size ≤ w6.heap.size := B6.size
  have z6_c : w.heap.size < w6.heap.size := by (have := hb6.size; (try simp at this); omega)
  have x6_c : w.heap.size ≤ w6.heap.size := Nat.le_of_lt z6_c
  have d6_c_0 : w6.cell? ⟨w.heap.size, 0, none⟩ = some (.int .i64 l) := keep (by go_cell) hb6
  have d6_c_1 : w6.cell? ⟨w.heap.size, 1, none⟩ = some (.int .i64 lo) := keep (by go_cell) hb6
  have d6_c_2 : w6.cell? ⟨w.heap.size, 2, none⟩ = some (.int .i64 hi) := keep (by go_cell) hb6
  have d6_c_3 : w6.cell? ⟨w.heap.size, 3, none⟩ = some (.int .i64 d) := keep (by go_cell) hb6
  have z6_p : w.heap.size + 1 < w6.heap.size := by (have := hb6.size; (try simp at this); omega)
  have x6_p : w.heap.size + 1 ≤ w6.heap.size := Nat.le_of_lt z6_p
  have d6_p_0 : w6.cell? ⟨w.heap.size + 1, 0, none⟩ = some (.int .i64 a) := keep (by go_cell) hb6
  have d6_p_1 : w6.cell? ⟨w.heap.size + 1, 1, none⟩ = some (.int .i64 b) := keep (by go_cell) hb6
  have z6_x : w1.heap.size < w6.heap.size := by (have := hb6.size; (try simp at this); omega)
  have x6_x : w1.heap.size ≤ w6.heap.size := Nat.le_of_lt z6_x
  have d6_x_0 : w6.cell? ⟨w1.heap.size, 0, none⟩ = some (.int .i64 l) := keep (by go_cell) hb6
  have d6_x_1 : w6.cell? ⟨w1.heap.size, 1, none⟩ = some (.int .i64 lo) := keep (by go_cell) hb6
  have d6_x_2 : w6.cell? ⟨w1.heap.size, 2, none⟩ = some (.int .i64 hi) := keep (by go_cell) hb6
  have d6_x_3 : w6.cell? ⟨w1.heap.size, 3, none⟩ = some (.int .i64 d) := keep (by go_cell) hb6
  have z6_r : w4.heap.size < w6.heap.size := by (have := hb6.size; (try simp at this); omega)
  have x6_r : w4.heap.size ≤ w6.heap.size := Nat.le_of_lt z6_r
  have d6_r_0 : w6.cell? ⟨w4.heap.size, 0, none⟩ = some (.int .i64 rA) := keep (by go_cell) hb6
  have d6_r_1 : w6.cell? ⟨w4.heap.size, 1, none⟩ = some (.int .i64 rB) := keep (by go_cell) hb6
  have z6_q : w5.heap.size < w6.heap.size := by (have := hb6.size; (try simp at this); omega)
  have x6_q : w5.heap.size ≤ w6.heap.size := Nat.le_of_lt z6_q
  have d6_q_0 : w6.cell? ⟨w5.heap.size, 0, none⟩ = some (.int .i64 rA) := keep (by go_cell) hb6
  have d6_q_1 : w6.cell? ⟨w5.heap.size, 1, none⟩ = some (.int .i64 rB) := keep (by go_cell) hb6
  have d6_q_2 : w6.cell? ⟨w5.heap.size, 2, none⟩ = some (.int .i64 rE) := keep (by go_cell) hb6
  clear hb6 d5_c_0 d5_c_1 d5_c_2 d5_c_3 d5_p_0 d5_p_1 d5_x_0 d5_x_1 d5_x_2 d5_x_3 d5_r_0 d5_r_1
  go_wp2_with fail
  refine (C4.out _).mono ?_
  rintro e w7 ⟨rfl, hb7⟩
  have B7 : Below w.heap.size w w7 := bt (by (repeat' (first | (with_reducible exact Below.refl _ _) | (with_reducible assumption) | (with_reducible refine Below.alloc ?_ ?_ _) | (with_reducible refine Below.drew ?_) | (with_reducible refine below_dn ?_) | (with_reducible refine Below.setCell ?_ ?_ _) | (with_reducible exact Nat.le_refl _) | omega | (simp only [World.size_alloc, World.size_setCell, World.size_drew]; omega) | (simp; omega) | (simp; done)))) hb7
  have s7 : w.heap.size ≤ w7.heap.size := B7.size
  have z7_c : w.heap.size < w7.heap.size := by (have := hb7.size; (try simp at this); omega)
  have x7_c : w.heap.size ≤ w7.heap.size := Nat.le_of_lt z7_c
  have d7_c_0 : w7.cell? ⟨w.heap.size, 0, none⟩ = some (.int .i64 l) := keep (by go_cell) hb7
  have d7_c_1 : w7.cell? ⟨w.heap.size, 1, none⟩ = some (.int .i64 lo) := keep (by go_cell) hb7
  have d7_c_2 : w7.cell? ⟨w.heap.size, 2, none⟩ = some (.int .i64 hi) := keep (by go_cell) hb7
  have d7_c_3 : w7.cell? ⟨w.heap.size, 3, none⟩ = some (.int .i64 d) := keep (by go_cell) hb7
  have z7_p : w.heap.size + 1 < w7.heap.size := by (have := hb7.size; (try simp at this); omega)
  have x7_p : w.heap.size + 1 ≤ w7.heap.size := Nat.le_of_lt z7_p
  have d7_p_0 : w7.cell? ⟨w.heap.size + 1, 0, none⟩ = some (.int .i64 a) := keep (by go_cell) hb7
  have d7_p_1 : w7.cell? ⟨w.heap.size + 1, 1, none⟩ = some (.int .i64 b) := keep (by go_cell) hb7
  have z7_x : w1.heap.size < w7.heap.size := by (have := hb7.size; (try simp at this); omega)
  have x7_x : w1.heap.size ≤ w7.heap.size := Nat.le_of_lt z7_x
  have d7_x_0 : w7.cell? ⟨w1.heap.size, 0, none⟩ = some (.int .i64 l) := keep (by go_cell) hb7
  have d7_x_1 : w7.cell? ⟨w1.heap.size, 1, none⟩ = some (.int .i64 lo) := keep (by go_cell) hb7
  have d7_x_2 : w7.cell? ⟨w1.heap.size, 2, none⟩ = some (.int .i64 hi) := keep (by go_cell) hb7
  have d7_x_3 : w7.cell? ⟨w1.heap.size, 3, none⟩ = some (.int .i64 d) := keep (by go_cell) hb7
  have z7_r : w4.heap.size < w7.heap.size := by (have := hb7.size; (try simp at this); omega)
  have x7_r : w4.heap.size ≤ w7.heap.size := Nat.le_of_lt z7_r
  have d7_r_0 : w7.cell? ⟨w4.heap.size, 0, none⟩ = some (.int .i64 rA) := keep (by go_cell) hb7
  have d7_r_1 : w7.cell? ⟨w4.heap.size, 1, none⟩ = some (.int .i64 rB) := keep (by go_cell) hb7
  have z7_q : w5.heap.size < w7.heap.size := by (have := hb7.size; (try simp at this); omega)
  have x7_q : w5.heap.size ≤ w7.heap.size := Nat.le_of_lt z7_q
  have d7_q_0 : w7.cell? ⟨w5.heap.size, 0, none⟩ = some (.int .i64 rA) := keep (by go_cell) hb7
  have d7_q_1 : w7.cell? ⟨w5.heap.size, 1, none⟩ = some (.int .i64 rB) := keep (by go_cell) hb7
  have d7_q_2 : w7.cell? ⟨w5.heap.size, 2, none⟩ = some (.int .i64 rE) := keep (by go_cell) hb7
  have z7_s : w6.heap.size < w7.heap.size := by (have := hb7.size; (try simp at this); omega)
  have x7_s : w6.heap.size ≤ w7.heap.size := Nat.le_of_lt z7_s
  have d7_s_0 : w7.cell? ⟨w6.heap.size, 0, none⟩ = some (.int .i64 sL) := keep (by go_cell) hb7
  have d7_s_1 : w7.cell? ⟨w6.heap.size, 1, none⟩ = some (.int .i64 sA) := keep (by go_cell) hb7
  have d7_s_2 : w7.cell? ⟨w6.heap.size, 2, none⟩ = some (.int .i64 sB) := keep (by go_cell) hb7
  have d7_s_3 : w7.cell? ⟨w6.heap.size, 3, none⟩ = some (.int .i64 sD) := keep (by go_cell) hb7
  clear hb7 d6_c_0 d6_c_1 d6_c_2 d6_c_3 d6_p_0 d6_p_1 d6_x_0 d6_x_1 d6_x_2 d6_x_3 d6_r_0 d6_r_1 d6_q_0 d6_q_1 d6_q_2
  go_wp2_with fail
  refine (HS.out _).mono ?_
  rintro e w8 ⟨rfl, hb8⟩
  have B8 : Below w.heap.size w w8 := bt (by (repeat' (first | (with_reducible exact Below.refl _ _) | (with_reducible assumption) | (with_reducible refine Below.alloc ?_ ?_ _) | (with_reducible refine Below.drew ?_) | (with_reducible refine below_dn ?_) | (with_reducible refine Below.setCell ?_ ?_ _) | (with_reducible exact Nat.le_refl _) | omega | (simp only [World.size_alloc, World.size_setCell, World.size_drew]; omega) | (simp; omega) | (simp; done)))) hb8
  have s8 : w.heap.size ≤ w8.heap.size := B8.size
  have z8_c : w.heap.size < w8.heap.size := by (have := hb8.size; (try simp at this); omega)
  have x8_c : w.heap.size ≤ w8.heap.size := Nat.le_of_lt z8_c
  have d8_c_0 : w8.cell? ⟨w.heap.size, 0, none⟩ = some (.int .i64 l) := keep (by go_cell) hb8
  have d8_c_1 : w8.cell? ⟨w.heap.size, 1, none⟩ = some (.int .i64 lo) := keep (by go_cell) hb8
  have d8_c_2 : w8.cell? ⟨w.heap.size, 2, none⟩ = some (.int .i64 hi) := keep (by go_cell) hb8
  have d8_c_3 : w8.cell? ⟨w.heap.size, 3, none⟩ = some (.int .i64 d) := keep (by go_cell) hb8
  have z8_p : w.heap.size + 1 < w8.heap.size := by (have := hb8.size; (try simp at this); omega)
  have x8_p : w.heap.size + 1 ≤ w8.heap.size := Nat.le_of_lt z8_p
  have d8_p_0 : w8.cell? ⟨w.heap.size + 1, 0, none⟩ = some (.int .i64 a) := keep (by go_cell) hb8
  have d8_p_1 : w8.cell? ⟨w.heap.size + 1, 1, none⟩ = some (.int .i64 b) := keep (by go_cell) hb8
  have z8_x : w1.heap.size < w8.heap.size := by (have := hb8.size; (try simp at this); omega)
  have x8_x : w1.heap.size ≤ w8.heap.size := Nat.le_of_lt z8_x
  have d8_x_0 : w8.cell? ⟨w1.heap.size, 0, none⟩ = some (.int .i64 l) := keep (by go_cell) hb8
  have d8_x_1 : w8.cell? ⟨w1.heap.size, 1, none⟩ = some (.int .i64 lo) := keep (by go_cell) hb8
  have d8_x_2 : w8.cell? ⟨w1.heap.size, 2, none⟩ = some (.int .i64 hi) := keep (by go_cell) hb8
  have d8_x_3 : w8.cell? ⟨w1.heap.size, 3, none⟩ = some (.int .i64 d) := keep (by go_cell) hb8
  have z8_r : w4.heap.size < w8.heap.size := by (have := hb8.size; (try simp at this); omega)
  have x8_r : w4.heap.size ≤ w8.heap.size := Nat.le_of_lt z8_r
  have d8_r_0 : w8.cell? ⟨w4.heap.size, 0, none⟩ = some (.int .i64 rA) := keep (by go_cell) hb8
  have d8_r_1 : w8.cell? ⟨w4.heap.size, 1, none⟩ = some (.int .i64 rB) := keep (by go_cell) hb8
  have z8_q : w5.heap.size < w8.heap.size := by (have := hb8.size; (try simp at this); omega)
  have x8_q : w5.heap.size ≤ w8.heap.size := Nat.le_of_lt z8_q
  have d8_q_0 : w8.cell? ⟨w5.heap.size, 0, none⟩ = some (.int .i64 rA) := keep (by go_cell) hb8
  have d8_q_1 : w8.cell? ⟨w5.heap.size, 1, none⟩ = some (.int .i64 rB) := keep (by go_cell) hb8
  have d8_q_2 : w8.cell? ⟨w5.heap.size, 2, none⟩ = some (.int .i64 rE) := keep (by go_cell) hb8
  have z8_s : w6.heap.size < w8.heap.size := by (have := hb8.size; (try simp at this); omega)
  have x8_s : w6.heap.size ≤ w8.heap.size := Nat.le_of_lt z8_s
  have d8_s_0 : w8.cell? ⟨w6.heap.size, 0, none⟩ = some (.int .i64 sL) := keep (by go_cell) hb8
  have d8_s_1 : w8.cell? ⟨w6.heap.size, 1, none⟩ = some (.int .i64 sA) := keep (by go_cell) hb8
  have d8_s_2 : w8.cell? ⟨w6.heap.size, 2, none⟩ = some (.int .i64 sB) := keep (by go_cell) hb8
  have d8_s_3 : w8.cell? ⟨w6.heap.size, 3, none⟩ = some (.int .i64 sD) := keep (by go_cell) hb8
  have z8_t : w7.heap.size < w8.heap.size := by (have := hb8.size; (try simp at this); omega)
  have x8_t : w7.heap.size ≤ w8.heap.size := Nat.le_of_lt z8_t
  have d8_t_0 : w8.cell? ⟨w7.heap.size, 0, none⟩ = some (.int .i64 sL) := keep (by go_cell) hb8
  have d8_t_1 : w8.cell? ⟨w7.heap.size, 1, none⟩ = some (.int .i64 sA) := keep (by go_cell) hb8
  have d8_t_2 : w8.cell? ⟨w7.heap.size, 2, none⟩ = some (.int .i64 sB) := keep (by go_cell) hb8
  have d8_t_3 : w8.cell? ⟨w7.heap.size, 3, none⟩ = some (.int .i64 sD) := keep (by go_cell) hb8
  have d8_t_4 : w8.cell? ⟨w7.heap.size, 4, none⟩ = some (.int .i64 sE) := keep (by go_cell) hb8
  clear hb8 d7_c_0 d7_c_1 d7_c_2 d7_c_3 d7_p_0 d7_p_1 d7_x_0 d7_x_1 d7_x_2 d7_x_3 d7_r_0 d7_r_1 d7_q_0 d7_q_1 d7_q_2 d7_s_0 d7_s_1 d7_s_2 d7_s_3
  go_wp2
  all_goals
    go_ret
    exact ⟨ret_bool (by first | rfl | (apply decide_eq_true; omega) | (simp; omega)), by (repeat' (first | (with_reducible exact Below.refl _ _) | (with_reducible assumption) | (with_reducible refine Below.alloc ?_ ?_ _) | (with_reducible refine Below.drew ?_) | (with_reducible refine below_dn ?_) | (with_reducible refine Below.setCell ?_ ?_ _) | (with_reducible exact Nat.le_refl _) | omega | (simp only [World.size_alloc, World.size_setCell, World.size_drew]; omega) | (simp; omega) | (simp; done)))⟩
theorem readsAsSpecified (l lo hi d x a b : Int) (w : World) (hs : ∀ W, Sane W) :
    Calls Try.prog 4 #[clk l lo hi d, .int .i64 x, per a b] w fun e w' => e = .returned (.bool true) ∧ Below w.heap.size w w' := by
  by_cases h : chkB l lo hi d = true
  · exact reads_good _ _ _ _ _ _ _ _ hs (chk_iff.1 h)
  · exact reads_bad _ _ _ _ _ _ _ _ hs (by simpa using h)
end Go.Proofs.Ytnojnfmhinjcpaa
