import Derived.Test.YtigalbgailnicaaH
namespace Go.Proofs.Ytigalbgailnicaa
set_option linter.unusedVariables false
set_option linter.unusedSimpArgs false
open Go.RowKit Go.Sort
set_option maxRecDepth 100000 in
set_option maxHeartbeats 2000000 in
theorem waits_bad (c n d l a k u : Int) (w : World) (h : ¬ OkB c n d l a) :
    Calls Try.prog 6 #[bk c n d l a, .int .i64 k, .int .i64 u] w fun e w' => e = .returned (.bool true) ∧ Below w.heap.size w w' := by
  have HH := Lib.hid h; clear h
  go_enter Try.func6, Try.ntmps6
  go_wp2_with fail
  refine (valid_no _ _ _ _ _ _ HH.out).mono ?_
  rintro e w1 ⟨rfl, hb1⟩
  have B1 : Below w.heap.size w w1 := bt (by (repeat' (first | (with_reducible exact Below.refl _ _) | (with_reducible assumption) | (with_reducible refine Below.alloc ?_ ?_ _) | (with_reducible refine Below.drew ?_) | (with_reducible refine below_dn ?_) | (with_reducible refine Below.setCell ?_ ?_ _) | (with_reducible exact Nat.le_refl _) | omega | (simp only [World.size_alloc, World.size_setCell, World.size_drew]; omega) | (simp; omega) | (simp; done)))) hb1
  have s1 : w.heap.size ≤ w1.heap.size := B1.size
  have z1_b : w.heap.size < w1.heap.size := by (have := hb1.size; (try simp at this); omega)
  have x1_b : w.heap.size ≤ w1.heap.size := Nat.le_of_lt z1_b
  have d1_b_0 : w1.cell? ⟨w.heap.size, 0, none⟩ = some (.int .i64 c) := keep (by go_cell) hb1
  have d1_b_1 : w1.cell? ⟨w.heap.size, 1, none⟩ = some (.int .i64 n) := keep (by go_cell) hb1
  have d1_b_2 : w1.cell? ⟨w.heap.size, 2, none⟩ = some (.int .i64 d) := keep (by go_cell) hb1
  have d1_b_3 : w1.cell? ⟨w.heap.size, 3, none⟩ = some (.int .i64 l) := keep (by go_cell) hb1
  have d1_b_4 : w1.cell? ⟨w.heap.size, 4, none⟩ = some (.int .i64 a) := keep (by go_cell) hb1
  clear hb1
  go_wp2_with fail
  refine (sane' _).mono ?_
  rintro e w2 ⟨rfl, hb2⟩
  have B2 : Below w.heap.size w w2 := bt (by (repeat' (first | (with_reducible exact Below.refl _ _) | (with_reducible assumption) | (with_reducible refine Below.alloc ?_ ?_ _) | (with_reducible refine Below.drew ?_) | (with_reducible refine below_dn ?_) | (with_reducible refine Below.setCell ?_ ?_ _) | (with_reducible exact Nat.le_refl _) | omega | (simp only [World.size_alloc, World.size_setCell, World.size_drew]; omega) | (simp; omega) | (simp; done)))) hb2
  have s2 : w.heap.size ≤ w2.heap.size := B2.size
  have z2_b : w.heap.size < w2.heap.size := by (have := hb2.size; (try simp at this); omega)
  have x2_b : w.heap.size ≤ w2.heap.size := Nat.le_of_lt z2_b
  have d2_b_0 : w2.cell? ⟨w.heap.size, 0, none⟩ = some (.int .i64 c) := keep (by go_cell) hb2
  have d2_b_1 : w2.cell? ⟨w.heap.size, 1, none⟩ = some (.int .i64 n) := keep (by go_cell) hb2
  have d2_b_2 : w2.cell? ⟨w.heap.size, 2, none⟩ = some (.int .i64 d) := keep (by go_cell) hb2
  have d2_b_3 : w2.cell? ⟨w.heap.size, 3, none⟩ = some (.int .i64 l) := keep (by go_cell) hb2
  have d2_b_4 : w2.cell? ⟨w.heap.size, 4, none⟩ = some (.int .i64 a) := keep (by go_cell) hb2
  clear hb2 d1_b_0 d1_b_1 d1_b_2 d1_b_3 d1_b_4
  go_wp2
  all_goals
    go_ret
    exact ⟨ret_bool (by first | rfl | (apply decide_eq_true; omega) | (simp; omega)), by (repeat' (first | (with_reducible exact Below.refl _ _) | (with_reducible assumption) | (with_reducible refine Below.alloc ?_ ?_ _) | (with_reducible refine Below.drew ?_) | (with_reducible refine below_dn ?_) | (with_reducible refine Below.setCell ?_ ?_ _) | (with_reducible exact Nat.le_refl _) | omega | (simp only [World.size_alloc, World.size_setCell, World.size_drew]; omega) | (simp; omega) | (simp; done)))⟩
set_option maxRecDepth 100000 in
set_option maxHeartbeats 2000000 in
theorem waits_num (c n d l a k u : Int) (w : World) (h : OkB c n d l a) (hk : k < 1 ∨ 1073741824 < k) :
    Calls Try.prog 6 #[bk c n d l a, .int .i64 k, .int .i64 u] w fun e w' => e = .returned (.bool true) ∧ Below w.heap.size w w' := by
  have HH := Lib.hid h; clear h
  go_enter Try.func6, Try.ntmps6
  go_wp2_with fail
  refine (valid_yes _ _ _ _ _ _ HH.out).mono ?_
  rintro e w1 ⟨rfl, hb1⟩
  have B1 : Below w.heap.size w w1 := bt (by (repeat' (first | (with_reducible exact Below.refl _ _) | (with_reducible assumption) | (with_reducible refine Below.alloc ?_ ?_ _) | (with_reducible refine Below.drew ?_) | (with_reducible refine below_dn ?_) | (with_reducible refine Below.setCell ?_ ?_ _) | (with_reducible exact Nat.le_refl _) | omega | (simp only [World.size_alloc, World.size_setCell, World.size_drew]; omega) | (simp; omega) | (simp; done)))) hb1
  have s1 : w.heap.size ≤ w1.heap.size := B1.size
  have z1_b : w.heap.size < w1.heap.size := by (have := hb1.size; (try simp at this); omega)
  have x1_b : w.heap.size ≤ w1.heap.size := Nat.le_of_lt z1_b
  have d1_b_0 : w1.cell? ⟨w.heap.size, 0, none⟩ = some (.int .i64 c) := keep (by go_cell) hb1
  have d1_b_1 : w1.cell? ⟨w.heap.size, 1, none⟩ = some (.int .i64 n) := keep (by go_cell) hb1
  have d1_b_2 : w1.cell? ⟨w.heap.size, 2, none⟩ = some (.int .i64 d) := keep (by go_cell) hb1
  have d1_b_3 : w1.cell? ⟨w.heap.size, 3, none⟩ = some (.int .i64 l) := keep (by go_cell) hb1
  have d1_b_4 : w1.cell? ⟨w.heap.size, 4, none⟩ = some (.int .i64 a) := keep (by go_cell) hb1
  clear hb1
  go_wp2_with fail
  all_goals
    refine (sane' _).mono ?_
    rintro e w2 ⟨rfl, hb2⟩
    have B2 : Below w.heap.size w w2 := bt (by (repeat' (first | (with_reducible exact Below.refl _ _) | (with_reducible assumption) | (with_reducible refine Below.alloc ?_ ?_ _) | (with_reducible refine Below.drew ?_) | (with_reducible refine below_dn ?_) | (with_reducible refine Below.setCell ?_ ?_ _) | (with_reducible exact Nat.le_refl _) | omega | (simp only [World.size_alloc, World.size_setCell, World.size_drew]; omega) | (simp; omega) | (simp; done)))) hb2
    have s2 : w.heap.size ≤ w2.heap.size := B2.size
    have z2_b : w.heap.size < w2.heap.size := by (have := hb2.size; (try simp at this); omega)
    have x2_b : w.heap.size ≤ w2.heap.size := Nat.le_of_lt z2_b
    have d2_b_0 : w2.cell? ⟨w.heap.size, 0, none⟩ = some (.int .i64 c) := keep (by go_cell) hb2
    have d2_b_1 : w2.cell? ⟨w.heap.size, 1, none⟩ = some (.int .i64 n) := keep (by go_cell) hb2
    have d2_b_2 : w2.cell? ⟨w.heap.size, 2, none⟩ = some (.int .i64 d) := keep (by go_cell) hb2
    have d2_b_3 : w2.cell? ⟨w.heap.size, 3, none⟩ = some (.int .i64 l) := keep (by go_cell) hb2
    have d2_b_4 : w2.cell? ⟨w.heap.size, 4, none⟩ = some (.int .i64 a) := keep (by go_cell) hb2
    clear hb2 d1_b_0 d1_b_1 d1_b_2 d1_b_3 d1_b_4
    go_wp2
    go_ret
    exact ⟨rfl, by (repeat' (first | (with_reducible exact Below.refl _ _) | (with_reducible assumption) | (with_reducible refine Below.alloc ?_ ?_ _) | (with_reducible refine Below.drew ?_) | (with_reducible refine below_dn ?_) | (with_reducible refine Below.setCell ?_ ?_ _) | (with_reducible exact Nat.le_refl _) | omega | (simp only [World.size_alloc, World.size_setCell, World.size_drew]; omega) | (simp; omega) | (simp; done)))⟩
set_option maxRecDepth 100000 in
set_option maxHeartbeats 2000000 in
theorem waits_err (c n d l a k u : Int) (w : World) (h : OkB c n d l a) (hk1 : 1 ≤ k) (hk2 : k ≤ 1073741824) (E : Int) (hE : E = 2 ∨ E = 4) (hw : ∀ w, Calls Try.prog 12 #[bk c n d l a, .int .i64 k] w fun e w' => e = .returned (.tuple #[.int .i64 0, .int .i64 E]) ∧ Below w.heap.size w w') (hl : ∀ x, a ≤ x → x ≤ 1099511627776 → lvl c n d l a x < k * d) :
    Calls Try.prog 6 #[bk c n d l a, .int .i64 k, .int .i64 u] w fun e w' => e = .returned (.bool true) ∧ Below w.heap.size w w' := by
  have HH := Lib.hid h
  obtain ⟨g1, g2, g3, g4, g5, g6, g7, g8, g9, g10⟩ := h
  have W1 := Lib.hid hw
  have c2 := fun (x : Int) (x1 : a ≤ x) (x2 : x ≤ 1099511627776) (W : World) => take_state c n d l a x k W HH.out hk1 hk2 x1 x2 (hl x x1 x2)
  have C2 := Lib.hid c2
  clear hw hl c2 g8
  go_enter Try.func6, Try.ntmps6
  go_wp2_with fail
  refine (valid_yes _ _ _ _ _ _ HH.out).mono ?_
  rintro e w1 ⟨rfl, hb1⟩
  have B1 : Below w.heap.size w w1 := bt (by (repeat' (first | (with_reducible exact Below.refl _ _) | (with_reducible assumption) | (with_reducible refine Below.alloc ?_ ?_ _) | (with_reducible refine Below.drew ?_) | (with_reducible refine below_dn ?_) | (with_reducible refine Below.setCell ?_ ?_ _) | (with_reducible exact Nat.le_refl _) | omega | (simp only [World.size_alloc, World.size_setCell, World.size_drew]; omega) | (simp; omega) | (simp; done)))) hb1
  have s1 : w.heap.size ≤ w1.heap.size := B1.size
  have z1_b : w.heap.size < w1.heap.size := by (have := hb1.size; (try simp at this); omega)
  have x1_b : w.heap.size ≤ w1.heap.size := Nat.le_of_lt z1_b
  have d1_b_0 : w1.cell? ⟨w.heap.size, 0, none⟩ = some (.int .i64 c) := keep (by go_cell) hb1
  have d1_b_1 : w1.cell? ⟨w.heap.size, 1, none⟩ = some (.int .i64 n) := keep (by go_cell) hb1
  have d1_b_2 : w1.cell? ⟨w.heap.size, 2, none⟩ = some (.int .i64 d) := keep (by go_cell) hb1
  have d1_b_3 : w1.cell? ⟨w.heap.size, 3, none⟩ = some (.int .i64 l) := keep (by go_cell) hb1
  have d1_b_4 : w1.cell? ⟨w.heap.size, 4, none⟩ = some (.int .i64 a) := keep (by go_cell) hb1
  clear hb1
  go_wp2_with fail
  refine (W1.out _).mono ?_
  rintro e w2 ⟨rfl, hb2⟩
  have B2 : Below w.heap.size w w2 := bt (by (repeat' (first | (with_reducible exact Below.refl _ _) | (with_reducible assumption) | (with_reducible refine Below.alloc ?_ ?_ _) | (with_reducible refine Below.drew ?_) | (with_reducible refine below_dn ?_) | (with_reducible refine Below.setCell ?_ ?_ _) | (with_reducible exact Nat.le_refl _) | omega | (simp only [World.size_alloc, World.size_setCell, World.size_drew]; omega) | (simp; omega) | (simp; done)))) hb2
  have s2 : w.heap.size ≤ w2.heap.size := B2.size
  have z2_b : w.heap.size < w2.heap.size := by (have := hb2.size; (try simp at this); omega)
  have x2_b : w.heap.size ≤ w2.heap.size := Nat.le_of_lt z2_b
  have d2_b_0 : w2.cell? ⟨w.heap.size, 0, none⟩ = some (.int .i64 c) := keep (by go_cell) hb2
  have d2_b_1 : w2.cell? ⟨w.heap.size, 1, none⟩ = some (.int .i64 n) := keep (by go_cell) hb2
  have d2_b_2 : w2.cell? ⟨w.heap.size, 2, none⟩ = some (.int .i64 d) := keep (by go_cell) hb2
  have d2_b_3 : w2.cell? ⟨w.heap.size, 3, none⟩ = some (.int .i64 l) := keep (by go_cell) hb2
  have d2_b_4 : w2.cell? ⟨w.heap.size, 4, none⟩ = some (.int .i64 a) := keep (by go_cell) hb2
  clear hb2 d1_b_0 d1_b_1 d1_b_2 d1_b_3 d1_b_4
  rcases hE with rfl | rfl
  all_goals
    by_cases u1 : u < a
    · go_wp2_with fail
      refine (C2.out 1099511627776 (by omega) (by omega) _).mono ?_
      rintro e w3 ⟨rfl, hb3⟩
      have B3 : Below w.heap.size w w3 := bt (by (repeat' (first | (with_reducible exact Below.refl _ _) | (with_reducible assumption) | (with_reducible refine Below.alloc ?_ ?_ _) | (with_reducible refine Below.drew ?_) | (with_reducible refine below_dn ?_) | (with_reducible refine Below.setCell ?_ ?_ _) | (with_reducible exact Nat.le_refl _) | omega | (simp only [World.size_alloc, World.size_setCell, World.size_drew]; omega) | (simp; omega) | (simp; done)))) hb3
      have s3 : w.heap.size ≤ w3.heap.size := B3.size
      have z3_b : w.heap.size < w3.heap.size := by (have := hb3.size; (try simp at this); omega)
      have x3_b : w.heap.size ≤ w3.heap.size := Nat.le_of_lt z3_b
      have d3_b_0 : w3.cell? ⟨w.heap.size, 0, none⟩ = some (.int .i64 c) := keep (by go_cell) hb3
      have d3_b_1 : w3.cell? ⟨w.heap.size, 1, none⟩ = some (.int .i64 n) := keep (by go_cell) hb3
      have d3_b_2 : w3.cell? ⟨w.heap.size, 2, none⟩ = some (.int .i64 d) := keep (by go_cell) hb3
      have d3_b_3 : w3.cell? ⟨w.heap.size, 3, none⟩ = some (.int .i64 l) := keep (by go_cell) hb3
      have d3_b_4 : w3.cell? ⟨w.heap.size, 4, none⟩ = some (.int .i64 a) := keep (by go_cell) hb3
      clear hb3 d2_b_0 d2_b_1 d2_b_2 d2_b_3 d2_b_4
      go_wp2_with fail
      refine (sane' _).mono ?_
      rintro e w4 ⟨rfl, hb4⟩
      have B4 : Below w.heap.size w w4 := bt (by (repeat' (first | (with_reducible exact Below.refl _ _) | (with_reducible assumption) | (with_reducible refine Below.alloc ?_ ?_ _) | (with_reducible refine Below.drew ?_) | (with_reducible refine below_dn ?_) | (with_reducible refine Below.setCell ?_ ?_ _) | (with_reducible exact Nat.le_refl _) | omega | (simp only [World.size_alloc, World.size_setCell, World.size_drew]; omega) | (simp; omega) | (simp; done)))) hb4
      have s4 : w.heap.size ≤ w4.heap.size := B4.size
      have z4_b : w.heap.size < w4.heap.size := by (have := hb4.size; (try simp at this); omega)
      have x4_b : w.heap.size ≤ w4.heap.size := Nat.le_of_lt z4_b
      have d4_b_0 : w4.cell? ⟨w.heap.size, 0, none⟩ = some (.int .i64 c) := keep (by go_cell) hb4
      have d4_b_1 : w4.cell? ⟨w.heap.size, 1, none⟩ = some (.int .i64 n) := keep (by go_cell) hb4
      have d4_b_2 : w4.cell? ⟨w.heap.size, 2, none⟩ = some (.int .i64 d) := keep (by go_cell) hb4
      have d4_b_3 : w4.cell? ⟨w.heap.size, 3, none⟩ = some (.int .i64 l) := keep (by go_cell) hb4
      have d4_b_4 : w4.cell? ⟨w.heap.size, 4, none⟩ = some (.int .i64 a) := keep (by go_cell) hb4
      have z4_s : w3.heap.size < w4.heap.size := by (have := hb4.size; (try simp at this); omega)
      have x4_s : w3.heap.size ≤ w4.heap.size := Nat.le_of_lt z4_s
      have d4_s_0 : w4.cell? ⟨w3.heap.size, 0, none⟩ = some (.int .i64 0) := keep (by go_cell) hb4
      have d4_s_1 : w4.cell? ⟨w3.heap.size, 1, none⟩ = some (.int .i64 0) := keep (by go_cell) hb4
      have d4_s_2 : w4.cell? ⟨w3.heap.size, 2, none⟩ = some (.int .i64 0) := keep (by go_cell) hb4
      have d4_s_3 : w4.cell? ⟨w3.heap.size, 3, none⟩ = some (.int .i64 0) := keep (by go_cell) hb4
      have d4_s_4 : w4.cell? ⟨w3.heap.size, 4, none⟩ = some (.int .i64 0) := keep (by go_cell) hb4
      clear hb4 d3_b_0 d3_b_1 d3_b_2 d3_b_3 d3_b_4
      go_wp2
      go_ret
      exact ⟨ret_bool (by first | rfl | (apply decide_eq_true; omega) | (simp; omega)), by (repeat' (first | (with_reducible exact Below.refl _ _) | (with_reducible assumption) | (with_reducible refine Below.alloc ?_ ?_ _) | (with_reducible refine Below.drew ?_) | (with_reducible refine below_dn ?_) | (with_reducible refine Below.setCell ?_ ?_ _) | (with_reducible exact Nat.le_refl _) | omega | (simp only [World.size_alloc, World.size_setCell, World.size_drew]; omega) | (simp; omega) | (simp; done)))⟩
    · by_cases u2 : u ≤ 1099511627776
      · have u1 : a ≤ u := by omega
        go_wp2_with fail
        refine (C2.out u (by omega) (by omega) _).mono ?_
        rintro e w3 ⟨rfl, hb3⟩
        have B3 : Below w.heap.size w w3 := bt (by (repeat' (first | (with_reducible exact Below.refl _ _) | (with_reducible assumption) | (with_reducible refine Below.alloc ?_ ?_ _) | (with_reducible refine Below.drew ?_) | (with_reducible refine below_dn ?_) | (with_reducible refine Below.setCell ?_ ?_ _) | (with_reducible exact Nat.le_refl _) | omega | (simp only [World.size_alloc, World.size_setCell, World.size_drew]; omega) | (simp; omega) | (simp; done)))) hb3
        have s3 : w.heap.size ≤ w3.heap.size := B3.size
        have z3_b : w.heap.size < w3.heap.size := by (have := hb3.size; (try simp at this); omega)
        have x3_b : w.heap.size ≤ w3.heap.size := Nat.le_of_lt z3_b
        have d3_b_0 : w3.cell? ⟨w.heap.size, 0, none⟩ = some (.int .i64 c) := keep (by go_cell) hb3
        have d3_b_1 : w3.cell? ⟨w.heap.size, 1, none⟩ = some (.int .i64 n) := keep (by go_cell) hb3
        have d3_b_2 : w3.cell? ⟨w.heap.size, 2, none⟩ = some (.int .i64 d) := keep (by go_cell) hb3
        have d3_b_3 : w3.cell? ⟨w.heap.size, 3, none⟩ = some (.int .i64 l) := keep (by go_cell) hb3
        have d3_b_4 : w3.cell? ⟨w.heap.size, 4, none⟩ = some (.int .i64 a) := keep (by go_cell) hb3
        clear hb3 d2_b_0 d2_b_1 d2_b_2 d2_b_3 d2_b_4
        go_wp2_with fail
        refine (sane' _).mono ?_
        rintro e w4 ⟨rfl, hb4⟩
        have B4 : Below w.heap.size w w4 := bt (by (repeat' (first | (with_reducible exact Below.refl _ _) | (with_reducible assumption) | (with_reducible refine Below.alloc ?_ ?_ _) | (with_reducible refine Below.drew ?_) | (with_reducible refine below_dn ?_) | (with_reducible refine Below.setCell ?_ ?_ _) | (with_reducible exact Nat.le_refl _) | omega | (simp only [World.size_alloc, World.size_setCell, World.size_drew]; omega) | (simp; omega) | (simp; done)))) hb4
        have s4 : w.heap.size ≤ w4.heap.size := B4.size
        have z4_b : w.heap.size < w4.heap.size := by (have := hb4.size; (try simp at this); omega)
        have x4_b : w.heap.size ≤ w4.heap.size := Nat.le_of_lt z4_b
        have d4_b_0 : w4.cell? ⟨w.heap.size, 0, none⟩ = some (.int .i64 c) := keep (by go_cell) hb4
        have d4_b_1 : w4.cell? ⟨w.heap.size, 1, none⟩ = some (.int .i64 n) := keep (by go_cell) hb4
        have d4_b_2 : w4.cell? ⟨w.heap.size, 2, none⟩ = some (.int .i64 d) := keep (by go_cell) hb4
        have d4_b_3 : w4.cell? ⟨w.heap.size, 3, none⟩ = some (.int .i64 l) := keep (by go_cell) hb4
        have d4_b_4 : w4.cell? ⟨w.heap.size, 4, none⟩ = some (.int .i64 a) := keep (by go_cell) hb4
        have z4_s : w3.heap.size < w4.heap.size := by (have := hb4.size; (try simp at this); omega)
        have x4_s : w3.heap.size ≤ w4.heap.size := Nat.le_of_lt z4_s
        have d4_s_0 : w4.cell? ⟨w3.heap.size, 0, none⟩ = some (.int .i64 0) := keep (by go_cell) hb4
        have d4_s_1 : w4.cell? ⟨w3.heap.size, 1, none⟩ = some (.int .i64 0) := keep (by go_cell) hb4
        have d4_s_2 : w4.cell? ⟨w3.heap.size, 2, none⟩ = some (.int .i64 0) := keep (by go_cell) hb4
        have d4_s_3 : w4.cell? ⟨w3.heap.size, 3, none⟩ = some (.int .i64 0) := keep (by go_cell) hb4
        have d4_s_4 : w4.cell? ⟨w3.heap.size, 4, none⟩ = some (.int .i64 0) := keep (by go_cell) hb4
        clear hb4 d3_b_0 d3_b_1 d3_b_2 d3_b_3 d3_b_4
        go_wp2
        go_ret
        exact ⟨ret_bool (by first | rfl | (apply decide_eq_true; omega) | (simp; omega)), by (repeat' (first | (with_reducible exact Below.refl _ _) | (with_reducible assumption) | (with_reducible refine Below.alloc ?_ ?_ _) | (with_reducible refine Below.drew ?_) | (with_reducible refine below_dn ?_) | (with_reducible refine Below.setCell ?_ ?_ _) | (with_reducible exact Nat.le_refl _) | omega | (simp only [World.size_alloc, World.size_setCell, World.size_drew]; omega) | (simp; omega) | (simp; done)))⟩
      · have u1 : a ≤ u := by omega
        go_wp2_with fail
        refine (C2.out 1099511627776 (by omega) (by omega) _).mono ?_
        rintro e w3 ⟨rfl, hb3⟩
        have B3 : Below w.heap.size w w3 := bt (by (repeat' (first | (with_reducible exact Below.refl _ _) | (with_reducible assumption) | (with_reducible refine Below.alloc ?_ ?_ _) | (with_reducible refine Below.drew ?_) | (with_reducible refine below_dn ?_) | (with_reducible refine Below.setCell ?_ ?_ _) | (with_reducible exact Nat.le_refl _) | omega | (simp only [World.size_alloc, World.size_setCell, World.size_drew]; omega) | (simp; omega) | (simp; done)))) hb3
        have s3 : w.heap.size ≤ w3.heap.size := B3.size
        have z3_b : w.heap.size < w3.heap.size := by (have := hb3.size; (try simp at this); omega)
        have x3_b : w.heap.size ≤ w3.heap.size := Nat.le_of_lt z3_b
        have d3_b_0 : w3.cell? ⟨w.heap.size, 0, none⟩ = some (.int .i64 c) := keep (by go_cell) hb3
        have d3_b_1 : w3.cell? ⟨w.heap.size, 1, none⟩ = some (.int .i64 n) := keep (by go_cell) hb3
        have d3_b_2 : w3.cell? ⟨w.heap.size, 2, none⟩ = some (.int .i64 d) := keep (by go_cell) hb3
        have d3_b_3 : w3.cell? ⟨w.heap.size, 3, none⟩ = some (.int .i64 l) := keep (by go_cell) hb3
        have d3_b_4 : w3.cell? ⟨w.heap.size, 4, none⟩ = some (.int .i64 a) := keep (by go_cell) hb3
        clear hb3 d2_b_0 d2_b_1 d2_b_2 d2_b_3 d2_b_4
        go_wp2_with fail
        refine (sane' _).mono ?_
        rintro e w4 ⟨rfl, hb4⟩
        have B4 : Below w.heap.size w w4 := bt (by (repeat' (first | (with_reducible exact Below.refl _ _) | (with_reducible assumption) | (with_reducible refine Below.alloc ?_ ?_ _) | (with_reducible refine Below.drew ?_) | (with_reducible refine below_dn ?_) | (with_reducible refine Below.setCell ?_ ?_ _) | (with_reducible exact Nat.le_refl _) | omega | (simp only [World.size_alloc, World.size_setCell, World.size_drew]; omega) | (simp; omega) | (simp; done)))) hb4
        have s4 : w.heap.size ≤ w4.heap.size := B4.size
        have z4_b : w.heap.size < w4.heap.size := by (have := hb4.size; (try simp at this); omega)
        have x4_b : w.heap.size ≤ w4.heap.size := Nat.le_of_lt z4_b
        have d4_b_0 : w4.cell? ⟨w.heap.size, 0, none⟩ = some (.int .i64 c) := keep (by go_cell) hb4
        have d4_b_1 : w4.cell? ⟨w.heap.size, 1, none⟩ = some (.int .i64 n) := keep (by go_cell) hb4
        have d4_b_2 : w4.cell? ⟨w.heap.size, 2, none⟩ = some (.int .i64 d) := keep (by go_cell) hb4
        have d4_b_3 : w4.cell? ⟨w.heap.size, 3, none⟩ = some (.int .i64 l) := keep (by go_cell) hb4
        have d4_b_4 : w4.cell? ⟨w.heap.size, 4, none⟩ = some (.int .i64 a) := keep (by go_cell) hb4
        have z4_s : w3.heap.size < w4.heap.size := by (have := hb4.size; (try simp at this); omega)
        have x4_s : w3.heap.size ≤ w4.heap.size := Nat.le_of_lt z4_s
        have d4_s_0 : w4.cell? ⟨w3.heap.size, 0, none⟩ = some (.int .i64 0) := keep (by go_cell) hb4
        have d4_s_1 : w4.cell? ⟨w3.heap.size, 1, none⟩ = some (.int .i64 0) := keep (by go_cell) hb4
        have d4_s_2 : w4.cell? ⟨w3.heap.size, 2, none⟩ = some (.int .i64 0) := keep (by go_cell) hb4
        have d4_s_3 : w4.cell? ⟨w3.heap.size, 3, none⟩ = some (.int .i64 0) := keep (by go_cell) hb4
        have d4_s_4 : w4.cell? ⟨w3.heap.size, 4, none⟩ = some (.int .i64 0) := keep (by go_cell) hb4
        clear hb4 d3_b_0 d3_b_1 d3_b_2 d3_b_3 d3_b_4
        go_wp2
        go_ret
        exact ⟨ret_bool (by first | rfl | (apply decide_eq_true; omega) | (simp; omega)), by (repeat' (first | (with_reducible exact Below.refl _ _) | (with_reducible assumption) | (with_reducible refine Below.alloc ?_ ?_ _) | (with_reducible refine Below.drew ?_) | (with_reducible refine below_dn ?_) | (with_reducible refine Below.setCell ?_ ?_ _) | (with_reducible exact Nat.le_refl _) | omega | (simp only [World.size_alloc, World.size_setCell, World.size_drew]; omega) | (simp; omega) | (simp; done)))⟩
set_option maxRecDepth 100000 in
set_option maxHeartbeats 2000000 in
theorem waits_at (c n d l a k u : Int) (w : World) (h : OkB c n d l a) (hk1 : 1 ≤ k) (hk2 : k ≤ 1073741824) (T : Int) (t1 : a ≤ T) (t2 : T ≤ 1099511627776) (hw : ∀ w, Calls Try.prog 12 #[bk c n d l a, .int .i64 k] w fun e w' => e = .returned (.tuple #[.int .i64 T, .int .i64 0]) ∧ Below w.heap.size w w') (he : k * d ≤ lvl c n d l a T) (hl : ∀ x, a ≤ x → x < T → lvl c n d l a x < k * d) :
    Calls Try.prog 6 #[bk c n d l a, .int .i64 k, .int .i64 u] w fun e w' => e = .returned (.bool true) ∧ Below w.heap.size w w' := by
  have HH := Lib.hid h
  obtain ⟨g1, g2, g3, g4, g5, g6, g7, g8, g9, g10⟩ := h
  have W1 := Lib.hid hw
  have c2 := fun (x : Int) (x1 : a ≤ x) (x2 : x < T) (W : World) => take_state c n d l a x k W HH.out hk1 hk2 x1 (by omega) (hl x x1 x2)
  have c3 := fun W : World => take_ok c n d l a T k W HH.out hk1 hk2 t1 t2 he
  obtain ⟨L, hL⟩ : ∃ L, lvl c n d l a T - k * d = L := ⟨_, rfl⟩
  rw [hL] at c3
  have C2 := Lib.hid c2; have C3 := Lib.hid c3
  clear hw hl c2 g8 c3 hL he
  go_enter Try.func6, Try.ntmps6
  go_wp2_with fail
  refine (valid_yes _ _ _ _ _ _ HH.out).mono ?_
  rintro e w1 ⟨rfl, hb1⟩
  have B1 : Below w.heap.size w w1 := bt (by (repeat' (first | (with_reducible exact Below.refl _ _) | (with_reducible assumption) | (with_reducible refine Below.alloc ?_ ?_ _) | (with_reducible refine Below.drew ?_) | (with_reducible refine below_dn ?_) | (with_reducible refine Below.setCell ?_ ?_ _) | (with_reducible exact Nat.le_refl _) | omega | (simp only [World.size_alloc, World.size_setCell, World.size_drew]; omega) | (simp; omega) | (simp; done)))) hb1
  have s1 : w.heap.size ≤ w1.heap.size := B1.size
  have z1_b : w.heap.size < w1.heap.size := by (have := hb1.size; (try simp at this); omega)
  have x1_b : w.heap.size ≤ w1.heap.size := Nat.le_of_lt z1_b
  have d1_b_0 : w1.cell? ⟨w.heap.size, 0, none⟩ = some (.int .i64 c) := keep (by go_cell) hb1
  have d1_b_1 : w1.cell? ⟨w.heap.size, 1, none⟩ = some (.int .i64 n) := keep (by go_cell) hb1
  have d1_b_2 : w1.cell? ⟨w.heap.size, 2, none⟩ = some (.int .i64 d) := keep (by go_cell) hb1
  have d1_b_3 : w1.cell? ⟨w.heap.size, 3, none⟩ = some (.int .i64 l) := keep (by go_cell) hb1
  have d1_b_4 : w1.cell? ⟨w.heap.size, 4, none⟩ = some (.int .i64 a) := keep (by go_cell) hb1
  clear hb1
  go_wp2_with fail
  refine (W1.out _).mono ?_
  rintro e w2 ⟨rfl, hb2⟩
  have B2 : Below w.heap.size w w2 := bt (by (repeat' (first | (with_reducible exact Below.refl _ _) | (with_reducible assumption) | (with_reducible refine Below.alloc ?_ ?_ _) | (with_reducible refine Below.drew ?_) | (with_reducible refine below_dn ?_) | (with_reducible refine Below.setCell ?_ ?_ _) | (with_reducible exact Nat.le_refl _) | omega | (simp only [World.size_alloc, World.size_setCell, World.size_drew]; omega) | (simp; omega) | (simp; done)))) hb2
  have s2 : w.heap.size ≤ w2.heap.size := B2.size
  have z2_b : w.heap.size < w2.heap.size := by (have := hb2.size; (try simp at this); omega)
  have x2_b : w.heap.size ≤ w2.heap.size := Nat.le_of_lt z2_b
  have d2_b_0 : w2.cell? ⟨w.heap.size, 0, none⟩ = some (.int .i64 c) := keep (by go_cell) hb2
  have d2_b_1 : w2.cell? ⟨w.heap.size, 1, none⟩ = some (.int .i64 n) := keep (by go_cell) hb2
  have d2_b_2 : w2.cell? ⟨w.heap.size, 2, none⟩ = some (.int .i64 d) := keep (by go_cell) hb2
  have d2_b_3 : w2.cell? ⟨w.heap.size, 3, none⟩ = some (.int .i64 l) := keep (by go_cell) hb2
  have d2_b_4 : w2.cell? ⟨w.heap.size, 4, none⟩ = some (.int .i64 a) := keep (by go_cell) hb2
  clear hb2 d1_b_0 d1_b_1 d1_b_2 d1_b_3 d1_b_4
  go_wp2_with fail
  refine (C3.out _).mono ?_
  rintro e w3 ⟨rfl, hb3⟩
  have B3 : Below w.heap.size w w3 := bt (by (repeat' (first | (with_reducible exact Below.refl _ _) | (with_reducible assumption) | (with_reducible refine Below.alloc ?_ ?_ _) | (with_reducible refine Below.drew ?_) | (with_reducible refine below_dn ?_) | (with_reducible refine Below.setCell ?_ ?_ _) | (with_reducible exact Nat.le_refl _) | omega | (simp only [World.size_alloc, World.size_setCell, World.size_drew]; omega) | (simp; omega) | (simp; done)))) hb3
  have s3 : w.heap.size ≤ w3.heap.size := B3.size
  have z3_b : w.heap.size < w3.heap.size := by (have := hb3.size; (try simp at this); omega)
  have x3_b : w.heap.size ≤ w3.heap.size := Nat.le_of_lt z3_b
  have d3_b_0 : w3.cell? ⟨w.heap.size, 0, none⟩ = some (.int .i64 c) := keep (by go_cell) hb3
  have d3_b_1 : w3.cell? ⟨w.heap.size, 1, none⟩ = some (.int .i64 n) := keep (by go_cell) hb3
  have d3_b_2 : w3.cell? ⟨w.heap.size, 2, none⟩ = some (.int .i64 d) := keep (by go_cell) hb3
  have d3_b_3 : w3.cell? ⟨w.heap.size, 3, none⟩ = some (.int .i64 l) := keep (by go_cell) hb3
  have d3_b_4 : w3.cell? ⟨w.heap.size, 4, none⟩ = some (.int .i64 a) := keep (by go_cell) hb3
  clear hb3 d2_b_0 d2_b_1 d2_b_2 d2_b_3 d2_b_4
  by_cases u1 : T ≤ u
  · by_cases u3 : T - 1 < a
    · go_wp2_with fail
      refine (sane' _).mono ?_
      rintro e w4 ⟨rfl, hb4⟩
      have B4 : Below w.heap.size w w4 := bt (by (repeat' (first | (with_reducible exact Below.refl _ _) | (with_reducible assumption) | (with_reducible refine Below.alloc ?_ ?_ _) | (with_reducible refine Below.drew ?_) | (with_reducible refine below_dn ?_) | (with_reducible refine Below.setCell ?_ ?_ _) | (with_reducible exact Nat.le_refl _) | omega | (simp only [World.size_alloc, World.size_setCell, World.size_drew]; omega) | (simp; omega) | (simp; done)))) hb4
      have s4 : w.heap.size ≤ w4.heap.size := B4.size
      have z4_b : w.heap.size < w4.heap.size := by (have := hb4.size; (try simp at this); omega)
      have x4_b : w.heap.size ≤ w4.heap.size := Nat.le_of_lt z4_b
      have d4_b_0 : w4.cell? ⟨w.heap.size, 0, none⟩ = some (.int .i64 c) := keep (by go_cell) hb4
      have d4_b_1 : w4.cell? ⟨w.heap.size, 1, none⟩ = some (.int .i64 n) := keep (by go_cell) hb4
      have d4_b_2 : w4.cell? ⟨w.heap.size, 2, none⟩ = some (.int .i64 d) := keep (by go_cell) hb4
      have d4_b_3 : w4.cell? ⟨w.heap.size, 3, none⟩ = some (.int .i64 l) := keep (by go_cell) hb4
      have d4_b_4 : w4.cell? ⟨w.heap.size, 4, none⟩ = some (.int .i64 a) := keep (by go_cell) hb4
      have z4_s : w3.heap.size < w4.heap.size := by (have := hb4.size; (try simp at this); omega)
      have x4_s : w3.heap.size ≤ w4.heap.size := Nat.le_of_lt z4_s
      have d4_s_0 : w4.cell? ⟨w3.heap.size, 0, none⟩ = some (.int .i64 c) := keep (by go_cell) hb4
      have d4_s_1 : w4.cell? ⟨w3.heap.size, 1, none⟩ = some (.int .i64 n) := keep (by go_cell) hb4
      have d4_s_2 : w4.cell? ⟨w3.heap.size, 2, none⟩ = some (.int .i64 d) := keep (by go_cell) hb4
      have d4_s_3 : w4.cell? ⟨w3.heap.size, 3, none⟩ = some (.int .i64 L) := keep (by go_cell) hb4
      have d4_s_4 : w4.cell? ⟨w3.heap.size, 4, none⟩ = some (.int .i64 T) := keep (by go_cell) hb4
      clear hb4 d3_b_0 d3_b_1 d3_b_2 d3_b_3 d3_b_4
      go_wp2
      go_ret
      exact ⟨ret_bool (by first | rfl | (apply decide_eq_true; omega) | (simp; omega)), by (repeat' (first | (with_reducible exact Below.refl _ _) | (with_reducible assumption) | (with_reducible refine Below.alloc ?_ ?_ _) | (with_reducible refine Below.drew ?_) | (with_reducible refine below_dn ?_) | (with_reducible refine Below.setCell ?_ ?_ _) | (with_reducible exact Nat.le_refl _) | omega | (simp only [World.size_alloc, World.size_setCell, World.size_drew]; omega) | (simp; omega) | (simp; done)))⟩
    · have u3 : a ≤ T - 1 := by omega
      go_wp2_with fail
      refine (C2.out (T - 1) (by omega) (by omega) _).mono ?_
      rintro e w4 ⟨rfl, hb4⟩
      have B4 : Below w.heap.size w w4 := bt (by (repeat' (first | (with_reducible exact Below.refl _ _) | (with_reducible assumption) | (with_reducible refine Below.alloc ?_ ?_ _) | (with_reducible refine Below.drew ?_) | (with_reducible refine below_dn ?_) | (with_reducible refine Below.setCell ?_ ?_ _) | (with_reducible exact Nat.le_refl _) | omega | (simp only [World.size_alloc, World.size_setCell, World.size_drew]; omega) | (simp; omega) | (simp; done)))) hb4
      have s4 : w.heap.size ≤ w4.heap.size := B4.size
      have z4_b : w.heap.size < w4.heap.size := by (have := hb4.size; (try simp at this); omega)
      have x4_b : w.heap.size ≤ w4.heap.size := Nat.le_of_lt z4_b
      have d4_b_0 : w4.cell? ⟨w.heap.size, 0, none⟩ = some (.int .i64 c) := keep (by go_cell) hb4
      have d4_b_1 : w4.cell? ⟨w.heap.size, 1, none⟩ = some (.int .i64 n) := keep (by go_cell) hb4
      have d4_b_2 : w4.cell? ⟨w.heap.size, 2, none⟩ = some (.int .i64 d) := keep (by go_cell) hb4
      have d4_b_3 : w4.cell? ⟨w.heap.size, 3, none⟩ = some (.int .i64 l) := keep (by go_cell) hb4
      have d4_b_4 : w4.cell? ⟨w.heap.size, 4, none⟩ = some (.int .i64 a) := keep (by go_cell) hb4
      have z4_s : w3.heap.size < w4.heap.size := by (have := hb4.size; (try simp at this); omega)
      have x4_s : w3.heap.size ≤ w4.heap.size := Nat.le_of_lt z4_s
      have d4_s_0 : w4.cell? ⟨w3.heap.size, 0, none⟩ = some (.int .i64 c) := keep (by go_cell) hb4
      have d4_s_1 : w4.cell? ⟨w3.heap.size, 1, none⟩ = some (.int .i64 n) := keep (by go_cell) hb4
      have d4_s_2 : w4.cell? ⟨w3.heap.size, 2, none⟩ = some (.int .i64 d) := keep (by go_cell) hb4
      have d4_s_3 : w4.cell? ⟨w3.heap.size, 3, none⟩ = some (.int .i64 L) := keep (by go_cell) hb4
      have d4_s_4 : w4.cell? ⟨w3.heap.size, 4, none⟩ = some (.int .i64 T) := keep (by go_cell) hb4
      clear hb4 d3_b_0 d3_b_1 d3_b_2 d3_b_3 d3_b_4
      go_wp2_with fail
      refine (sane' _).mono ?_
      rintro e w5 ⟨rfl, hb5⟩
      have B5 : Below w.heap.size w w5 := bt (by (repeat' (first | (with_reducible exact Below.refl _ _) | (with_reducible assumption) | (with_reducible refine Below.alloc ?_ ?_ _) | (with_reducible refine Below.drew ?_) | (with_reducible refine below_dn ?_) | (with_reducible refine Below.setCell ?_ ?_ _) | (with_reducible exact Nat.le_refl _) | omega | (simp only [World.size_alloc, World.size_setCell, World.size_drew]; omega) | (simp; omega) | (simp; done)))) hb5
      have s5 : w.heap.size ≤ w5.heap.size := B5.size
      have z5_b : w.heap.size < w5.heap.size := by (have := hb5.size; (try simp at this); omega)
      have x5_b : w.heap.size ≤ w5.heap.size := Nat.le_of_lt z5_b
      have d5_b_0 : w5.cell? ⟨w.heap.size, 0, none⟩ = some (.int .i64 c) := keep (by go_cell) hb5
      have d5_b_1 : w5.cell? ⟨w.heap.size, 1, none⟩ = some (.int .i64 n) := keep (by go_cell) hb5
      have d5_b_2 : w5.cell? ⟨w.heap.size, 2, none⟩ = some (.int .i64 d) := keep (by go_cell) hb5
      have d5_b_3 : w5.cell? ⟨w.heap.size, 3, none⟩ = some (.int .i64 l) := keep (by go_cell) hb5
      have d5_b_4 : w5.cell? ⟨w.heap.size, 4, none⟩ = some (.int .i64 a) := keep (by go_cell) hb5
      have z5_s : w3.heap.size < w5.heap.size := by (have := hb5.size; (try simp at this); omega)
      have x5_s : w3.heap.size ≤ w5.heap.size := Nat.le_of_lt z5_s
      have d5_s_0 : w5.cell? ⟨w3.heap.size, 0, none⟩ = some (.int .i64 c) := keep (by go_cell) hb5
      have d5_s_1 : w5.cell? ⟨w3.heap.size, 1, none⟩ = some (.int .i64 n) := keep (by go_cell) hb5
      have d5_s_2 : w5.cell? ⟨w3.heap.size, 2, none⟩ = some (.int .i64 d) := keep (by go_cell) hb5
      have d5_s_3 : w5.cell? ⟨w3.heap.size, 3, none⟩ = some (.int .i64 L) := keep (by go_cell) hb5
      have d5_s_4 : w5.cell? ⟨w3.heap.size, 4, none⟩ = some (.int .i64 T) := keep (by go_cell) hb5
      have z5_q : w4.heap.size < w5.heap.size := by (have := hb5.size; (try simp at this); omega)
      have x5_q : w4.heap.size ≤ w5.heap.size := Nat.le_of_lt z5_q
      have d5_q_0 : w5.cell? ⟨w4.heap.size, 0, none⟩ = some (.int .i64 0) := keep (by go_cell) hb5
      have d5_q_1 : w5.cell? ⟨w4.heap.size, 1, none⟩ = some (.int .i64 0) := keep (by go_cell) hb5
      have d5_q_2 : w5.cell? ⟨w4.heap.size, 2, none⟩ = some (.int .i64 0) := keep (by go_cell) hb5
      have d5_q_3 : w5.cell? ⟨w4.heap.size, 3, none⟩ = some (.int .i64 0) := keep (by go_cell) hb5
      have d5_q_4 : w5.cell? ⟨w4.heap.size, 4, none⟩ = some (.int .i64 0) := keep (by go_cell) hb5
      clear hb5 d4_b_0 d4_b_1 d4_b_2 d4_b_3 d4_b_4 d4_s_0 d4_s_1 d4_s_2 d4_s_3 d4_s_4
      go_wp2
      go_ret
      exact ⟨ret_bool (by first | rfl | (apply decide_eq_true; omega) | (simp; omega)), by (repeat' (first | (with_reducible exact Below.refl _ _) | (with_reducible assumption) | (with_reducible refine Below.alloc ?_ ?_ _) | (with_reducible refine Below.drew ?_) | (with_reducible refine below_dn ?_) | (with_reducible refine Below.setCell ?_ ?_ _) | (with_reducible exact Nat.le_refl _) | omega | (simp only [World.size_alloc, World.size_setCell, World.size_drew]; omega) | (simp; omega) | (simp; done)))⟩
  · have u1 : u < T := by omega
    by_cases u2 : u < a
    · by_cases u3 : T - 1 < a
      · go_wp2_with fail
        refine (sane' _).mono ?_
        rintro e w4 ⟨rfl, hb4⟩
        have B4 : Below w.heap.size w w4 := bt (by (repeat' (first | (with_reducible exact Below.refl _ _) | (with_reducible assumption) | (with_reducible refine Below.alloc ?_ ?_ _) | (with_reducible refine Below.drew ?_) | (with_reducible refine below_dn ?_) | (with_reducible refine Below.setCell ?_ ?_ _) | (with_reducible exact Nat.le_refl _) | omega | (simp only [World.size_alloc, World.size_setCell, World.size_drew]; omega) | (simp; omega) | (simp; done)))) hb4
        have s4 : w.heap.size ≤ w4.heap.size := B4.size
        have z4_b : w.heap.size < w4.heap.size := by (have := hb4.size; (try simp at this); omega)
        have x4_b : w.heap.size ≤ w4.heap.size := Nat.le_of_lt z4_b
        have d4_b_0 : w4.cell? ⟨w.heap.size, 0, none⟩ = some (.int .i64 c) := keep (by go_cell) hb4
        have d4_b_1 : w4.cell? ⟨w.heap.size, 1, none⟩ = some (.int .i64 n) := keep (by go_cell) hb4
        have d4_b_2 : w4.cell? ⟨w.heap.size, 2, none⟩ = some (.int .i64 d) := keep (by go_cell) hb4
        have d4_b_3 : w4.cell? ⟨w.heap.size, 3, none⟩ = some (.int .i64 l) := keep (by go_cell) hb4
        have d4_b_4 : w4.cell? ⟨w.heap.size, 4, none⟩ = some (.int .i64 a) := keep (by go_cell) hb4
        have z4_s : w3.heap.size < w4.heap.size := by (have := hb4.size; (try simp at this); omega)
        have x4_s : w3.heap.size ≤ w4.heap.size := Nat.le_of_lt z4_s
        have d4_s_0 : w4.cell? ⟨w3.heap.size, 0, none⟩ = some (.int .i64 c) := keep (by go_cell) hb4
        have d4_s_1 : w4.cell? ⟨w3.heap.size, 1, none⟩ = some (.int .i64 n) := keep (by go_cell) hb4
        have d4_s_2 : w4.cell? ⟨w3.heap.size, 2, none⟩ = some (.int .i64 d) := keep (by go_cell) hb4
        have d4_s_3 : w4.cell? ⟨w3.heap.size, 3, none⟩ = some (.int .i64 L) := keep (by go_cell) hb4
        have d4_s_4 : w4.cell? ⟨w3.heap.size, 4, none⟩ = some (.int .i64 T) := keep (by go_cell) hb4
        clear hb4 d3_b_0 d3_b_1 d3_b_2 d3_b_3 d3_b_4
        go_wp2
        go_ret
        exact ⟨ret_bool (by first | rfl | (apply decide_eq_true; omega) | (simp; omega)), by (repeat' (first | (with_reducible exact Below.refl _ _) | (with_reducible assumption) | (with_reducible refine Below.alloc ?_ ?_ _) | (with_reducible refine Below.drew ?_) | (with_reducible refine below_dn ?_) | (with_reducible refine Below.setCell ?_ ?_ _) | (with_reducible exact Nat.le_refl _) | omega | (simp only [World.size_alloc, World.size_setCell, World.size_drew]; omega) | (simp; omega) | (simp; done)))⟩
      · have u3 : a ≤ T - 1 := by omega
        go_wp2_with fail
        refine (C2.out (T - 1) (by omega) (by omega) _).mono ?_
        rintro e w4 ⟨rfl, hb4⟩
        have B4 : Below w.heap.size w w4 := bt (by (repeat' (first | (with_reducible exact Below.refl _ _) | (with_reducible assumption) | (with_reducible refine Below.alloc ?_ ?_ _) | (with_reducible refine Below.drew ?_) | (with_reducible refine below_dn ?_) | (with_reducible refine Below.setCell ?_ ?_ _) | (with_reducible exact Nat.le_refl _) | omega | (simp only [World.size_alloc, World.size_setCell, World.size_drew]; omega) | (simp; omega) | (simp; done)))) hb4
        have s4 : w.heap.size ≤ w4.heap.size := B4.size
        have z4_b : w.heap.size < w4.heap.size := by (have := hb4.size; (try simp at this); omega)
        have x4_b : w.heap.size ≤ w4.heap.size := Nat.le_of_lt z4_b
        have d4_b_0 : w4.cell? ⟨w.heap.size, 0, none⟩ = some (.int .i64 c) := keep (by go_cell) hb4
        have d4_b_1 : w4.cell? ⟨w.heap.size, 1, none⟩ = some (.int .i64 n) := keep (by go_cell) hb4
        have d4_b_2 : w4.cell? ⟨w.heap.size, 2, none⟩ = some (.int .i64 d) := keep (by go_cell) hb4
        have d4_b_3 : w4.cell? ⟨w.heap.size, 3, none⟩ = some (.int .i64 l) := keep (by go_cell) hb4
        have d4_b_4 : w4.cell? ⟨w.heap.size, 4, none⟩ = some (.int .i64 a) := keep (by go_cell) hb4
        have z4_s : w3.heap.size < w4.heap.size := by (have := hb4.size; (try simp at this); omega)
        have x4_s : w3.heap.size ≤ w4.heap.size := Nat.le_of_lt z4_s
        have d4_s_0 : w4.cell? ⟨w3.heap.size, 0, none⟩ = some (.int .i64 c) := keep (by go_cell) hb4
        have d4_s_1 : w4.cell? ⟨w3.heap.size, 1, none⟩ = some (.int .i64 n) := keep (by go_cell) hb4
        have d4_s_2 : w4.cell? ⟨w3.heap.size, 2, none⟩ = some (.int .i64 d) := keep (by go_cell) hb4
        have d4_s_3 : w4.cell? ⟨w3.heap.size, 3, none⟩ = some (.int .i64 L) := keep (by go_cell) hb4
        have d4_s_4 : w4.cell? ⟨w3.heap.size, 4, none⟩ = some (.int .i64 T) := keep (by go_cell) hb4
        clear hb4 d3_b_0 d3_b_1 d3_b_2 d3_b_3 d3_b_4
        go_wp2_with fail
        refine (sane' _).mono ?_
        rintro e w5 ⟨rfl, hb5⟩
        have B5 : Below w.heap.size w w5 := bt (by (repeat' (first | (with_reducible exact Below.refl _ _) | (with_reducible assumption) | (with_reducible refine Below.alloc ?_ ?_ _) | (with_reducible refine Below.drew ?_) | (with_reducible refine below_dn ?_) | (with_reducible refine Below.setCell ?_ ?_ _) | (with_reducible exact Nat.le_refl _) | omega | (simp only [World.size_alloc, World.size_setCell, World.size_drew]; omega) | (simp; omega) | (simp; done)))) hb5
        have s5 : w.heap.size ≤ w5.heap.size := B5.size
        have z5_b : w.heap.size < w5.heap.size := by (have := hb5.size; (try simp at this); omega)
        have x5_b : w.heap.size ≤ w5.heap.size := Nat.le_of_lt z5_b
        have d5_b_0 : w5.cell? ⟨w.heap.size, 0, none⟩ = some (.int .i64 c) := keep (by go_cell) hb5
        have d5_b_1 : w5.cell? ⟨w.heap.size, 1, none⟩ = some (.int .i64 n) := keep (by go_cell) hb5
        have d5_b_2 : w5.cell? ⟨w.heap.size, 2, none⟩ = some (.int .i64 d) := keep (by go_cell) hb5
        have d5_b_3 : w5.cell? ⟨w.heap.size, 3, none⟩ = some (.int .i64 l) := keep (by go_cell) hb5
        have d5_b_4 : w5.cell? ⟨w.heap.size, 4, none⟩ = some (.int .i64 a) := keep (by go_cell) hb5
        have z5_s : w3.heap.size < w5.heap.size := by (have := hb5.size; (try simp at this); omega)
        have x5_s : w3.heap.size ≤ w5.heap.size := Nat.le_of_lt z5_s
        have d5_s_0 : w5.cell? ⟨w3.heap.size, 0, none⟩ = some (.int .i64 c) := keep (by go_cell) hb5
        have d5_s_1 : w5.cell? ⟨w3.heap.size, 1, none⟩ = some (.int .i64 n) := keep (by go_cell) hb5
        have d5_s_2 : w5.cell? ⟨w3.heap.size, 2, none⟩ = some (.int .i64 d) := keep (by go_cell) hb5
        have d5_s_3 : w5.cell? ⟨w3.heap.size, 3, none⟩ = some (.int .i64 L) := keep (by go_cell) hb5
        have d5_s_4 : w5.cell? ⟨w3.heap.size, 4, none⟩ = some (.int .i64 T) := keep (by go_cell) hb5
        have z5_q : w4.heap.size < w5.heap.size := by (have := hb5.size; (try simp at this); omega)
        have x5_q : w4.heap.size ≤ w5.heap.size := Nat.le_of_lt z5_q
        have d5_q_0 : w5.cell? ⟨w4.heap.size, 0, none⟩ = some (.int .i64 0) := keep (by go_cell) hb5
        have d5_q_1 : w5.cell? ⟨w4.heap.size, 1, none⟩ = some (.int .i64 0) := keep (by go_cell) hb5
        have d5_q_2 : w5.cell? ⟨w4.heap.size, 2, none⟩ = some (.int .i64 0) := keep (by go_cell) hb5
        have d5_q_3 : w5.cell? ⟨w4.heap.size, 3, none⟩ = some (.int .i64 0) := keep (by go_cell) hb5
        have d5_q_4 : w5.cell? ⟨w4.heap.size, 4, none⟩ = some (.int .i64 0) := keep (by go_cell) hb5
        clear hb5 d4_b_0 d4_b_1 d4_b_2 d4_b_3 d4_b_4 d4_s_0 d4_s_1 d4_s_2 d4_s_3 d4_s_4
        go_wp2
        go_ret
        exact ⟨ret_bool (by first | rfl | (apply decide_eq_true; omega) | (simp; omega)), by (repeat' (first | (with_reducible exact Below.refl _ _) | (with_reducible assumption) | (with_reducible refine Below.alloc ?_ ?_ _) | (with_reducible refine Below.drew ?_) | (with_reducible refine below_dn ?_) | (with_reducible refine Below.setCell ?_ ?_ _) | (with_reducible exact Nat.le_refl _) | omega | (simp only [World.size_alloc, World.size_setCell, World.size_drew]; omega) | (simp; omega) | (simp; done)))⟩
    · have u2 : a ≤ u := by omega
      go_wp2_with fail
      refine (C2.out (u) (by omega) (by omega) _).mono ?_
      rintro e w4 ⟨rfl, hb4⟩
      have B4 : Below w.heap.size w w4 := bt (by (repeat' (first | (with_reducible exact Below.refl _ _) | (with_reducible assumption) | (with_reducible refine Below.alloc ?_ ?_ _) | (with_reducible refine Below.drew ?_) | (with_reducible refine below_dn ?_) | (with_reducible refine Below.setCell ?_ ?_ _) | (with_reducible exact Nat.le_refl _) | omega | (simp only [World.size_alloc, World.size_setCell, World.size_drew]; omega) | (simp; omega) | (simp; done)))) hb4
      have s4 : w.heap.size ≤ w4.heap.size := B4.size
      have z4_b : w.heap.size < w4.heap.size := by (have := hb4.size; (try simp at this); omega)
      have x4_b : w.heap.size ≤ w4.heap.size := Nat.le_of_lt z4_b
      have d4_b_0 : w4.cell? ⟨w.heap.size, 0, none⟩ = some (.int .i64 c) := keep (by go_cell) hb4
      have d4_b_1 : w4.cell? ⟨w.heap.size, 1, none⟩ = some (.int .i64 n) := keep (by go_cell) hb4
      have d4_b_2 : w4.cell? ⟨w.heap.size, 2, none⟩ = some (.int .i64 d) := keep (by go_cell) hb4
      have d4_b_3 : w4.cell? ⟨w.heap.size, 3, none⟩ = some (.int .i64 l) := keep (by go_cell) hb4
      have d4_b_4 : w4.cell? ⟨w.heap.size, 4, none⟩ = some (.int .i64 a) := keep (by go_cell) hb4
      have z4_s : w3.heap.size < w4.heap.size := by (have := hb4.size; (try simp at this); omega)
      have x4_s : w3.heap.size ≤ w4.heap.size := Nat.le_of_lt z4_s
      have d4_s_0 : w4.cell? ⟨w3.heap.size, 0, none⟩ = some (.int .i64 c) := keep (by go_cell) hb4
      have d4_s_1 : w4.cell? ⟨w3.heap.size, 1, none⟩ = some (.int .i64 n) := keep (by go_cell) hb4
      have d4_s_2 : w4.cell? ⟨w3.heap.size, 2, none⟩ = some (.int .i64 d) := keep (by go_cell) hb4
      have d4_s_3 : w4.cell? ⟨w3.heap.size, 3, none⟩ = some (.int .i64 L) := keep (by go_cell) hb4
      have d4_s_4 : w4.cell? ⟨w3.heap.size, 4, none⟩ = some (.int .i64 T) := keep (by go_cell) hb4
      clear hb4 d3_b_0 d3_b_1 d3_b_2 d3_b_3 d3_b_4
      go_wp2_with fail
      refine (sane' _).mono ?_
      rintro e w5 ⟨rfl, hb5⟩
      have B5 : Below w.heap.size w w5 := bt (by (repeat' (first | (with_reducible exact Below.refl _ _) | (with_reducible assumption) | (with_reducible refine Below.alloc ?_ ?_ _) | (with_reducible refine Below.drew ?_) | (with_reducible refine below_dn ?_) | (with_reducible refine Below.setCell ?_ ?_ _) | (with_reducible exact Nat.le_refl _) | omega | (simp only [World.size_alloc, World.size_setCell, World.size_drew]; omega) | (simp; omega) | (simp; done)))) hb5
      have s5 : w.heap.size ≤ w5.heap.size := B5.size
      have z5_b : w.heap.size < w5.heap.size := by (have := hb5.size; (try simp at this); omega)
      have x5_b : w.heap.size ≤ w5.heap.size := Nat.le_of_lt z5_b
      have d5_b_0 : w5.cell? ⟨w.heap.size, 0, none⟩ = some (.int .i64 c) := keep (by go_cell) hb5
      have d5_b_1 : w5.cell? ⟨w.heap.size, 1, none⟩ = some (.int .i64 n) := keep (by go_cell) hb5
      have d5_b_2 : w5.cell? ⟨w.heap.size, 2, none⟩ = some (.int .i64 d) := keep (by go_cell) hb5
      have d5_b_3 : w5.cell? ⟨w.heap.size, 3, none⟩ = some (.int .i64 l) := keep (by go_cell) hb5
      have d5_b_4 : w5.cell? ⟨w.heap.size, 4, none⟩ = some (.int .i64 a) := keep (by go_cell) hb5
      have z5_s : w3.heap.size < w5.heap.size := by (have := hb5.size; (try simp at this); omega)
      have x5_s : w3.heap.size ≤ w5.heap.size := Nat.le_of_lt z5_s
      have d5_s_0 : w5.cell? ⟨w3.heap.size, 0, none⟩ = some (.int .i64 c) := keep (by go_cell) hb5
      have d5_s_1 : w5.cell? ⟨w3.heap.size, 1, none⟩ = some (.int .i64 n) := keep (by go_cell) hb5
      have d5_s_2 : w5.cell? ⟨w3.heap.size, 2, none⟩ = some (.int .i64 d) := keep (by go_cell) hb5
      have d5_s_3 : w5.cell? ⟨w3.heap.size, 3, none⟩ = some (.int .i64 L) := keep (by go_cell) hb5
      have d5_s_4 : w5.cell? ⟨w3.heap.size, 4, none⟩ = some (.int .i64 T) := keep (by go_cell) hb5
      have z5_q : w4.heap.size < w5.heap.size := by (have := hb5.size; (try simp at this); omega)
      have x5_q : w4.heap.size ≤ w5.heap.size := Nat.le_of_lt z5_q
      have d5_q_0 : w5.cell? ⟨w4.heap.size, 0, none⟩ = some (.int .i64 0) := keep (by go_cell) hb5
      have d5_q_1 : w5.cell? ⟨w4.heap.size, 1, none⟩ = some (.int .i64 0) := keep (by go_cell) hb5
      have d5_q_2 : w5.cell? ⟨w4.heap.size, 2, none⟩ = some (.int .i64 0) := keep (by go_cell) hb5
      have d5_q_3 : w5.cell? ⟨w4.heap.size, 3, none⟩ = some (.int .i64 0) := keep (by go_cell) hb5
      have d5_q_4 : w5.cell? ⟨w4.heap.size, 4, none⟩ = some (.int .i64 0) := keep (by go_cell) hb5
      clear hb5 d4_b_0 d4_b_1 d4_b_2 d4_b_3 d4_b_4 d4_s_0 d4_s_1 d4_s_2 d4_s_3 d4_s_4
      go_wp2
      go_ret
      exact ⟨ret_bool (by first | rfl | (apply decide_eq_true; omega) | (simp; omega)), by (repeat' (first | (with_reducible exact Below.refl _ _) | (with_reducible assumption) | (with_reducible refine Below.alloc ?_ ?_ _) | (with_reducible refine Below.drew ?_) | (with_reducible refine below_dn ?_) | (with_reducible refine Below.setCell ?_ ?_ _) | (with_reducible exact Nat.le_refl _) | omega | (simp only [World.size_alloc, World.size_setCell, World.size_drew]; omega) | (simp; omega) | (simp; done)))⟩
theorem waitsExactly (c n d l a k u : Int) (w : World) :
    Calls Try.prog 6 #[bk c n d l a, .int .i64 k, .int .i64 u] w fun e w' => e = .returned (.bool true) ∧ Below w.heap.size w w' := by
  by_cases h : OkB c n d l a
  · by_cases hk : k < 1 ∨ 1073741824 < k
    · exact waits_num _ _ _ _ _ _ _ _ h hk
    · have h1 : 1 ≤ k := by omega
      have h2 : k ≤ 1073741824 := by omega
      have hn := h.2.2.1
      have hd := h.2.2.2.2.1
      have ha := h.2.2.2.2.2.2.2.2
      by_cases k3 : c < k
      · exact waits_err _ _ _ _ _ _ _ _ h h1 h2 2 (Or.inl rfl) (fun w => wait_limit c n d l a k w h h1 h2 k3) (fun x _ _ => lacking_cap c n d l a k x hd k3)
      by_cases k4 : k * d ≤ l
      · refine waits_at _ _ _ _ _ _ _ _ h h1 h2 a (Int.le_refl _) ha.2 (fun w => wait_now c n d l a k w h h1 h2 (by omega) k4) ?_ (fun x x1 x2 => by omega)
        have := h.2.2.2.2.2.2.2.1
        unfold lvl
        rw [Int.sub_self, Int.mul_zero]
        omega
      by_cases k5 : n = 0
      · exact waits_err _ _ _ _ _ _ _ _ h h1 h2 4 (Or.inr rfl) (fun w => wait_never c n d l a k w h h1 h2 (by omega) (by omega) k5) (fun x _ _ => by subst k5; exact lacking_still c d l a k x (by omega))
      have hq : 0 ≤ (k * d - l + n - 1) / n := Int.ediv_nonneg (by omega) (by omega)
      by_cases k6 : a + (k * d - l + n - 1) / n ≤ 1099511627776
      · exact waits_at _ _ _ _ _ _ _ _ h h1 h2 (a + (k * d - l + n - 1) / n) (by omega) k6 (fun w => wait_at c n d l a k w h h1 h2 (by omega) (by omega) (by omega) k6) (enough_at c n d l a k _ hd (by omega) (by omega) (Int.le_refl _)) (fun x _ x2 => lacking_at c n d l a k x (by omega) x2)
      · exact waits_err _ _ _ _ _ _ _ _ h h1 h2 4 (Or.inr rfl) (fun w => wait_late c n d l a k w h h1 h2 (by omega) (by omega) (by omega) (by omega)) (fun x _ x2 => lacking_at c n d l a k x (by omega) (by omega))
  · exact waits_bad _ _ _ _ _ _ _ _ h
end Go.Proofs.Ytigalbgailnicaa
