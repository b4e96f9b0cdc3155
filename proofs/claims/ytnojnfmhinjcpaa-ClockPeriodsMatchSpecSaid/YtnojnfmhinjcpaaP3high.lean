import Derived.Test.YtnojnfmhinjcpaaP3a
namespace Go.Proofs.Ytnojnfmhinjcpaa
set_option linter.unusedVariables false
set_option linter.unusedSimpArgs false
open Go.RowKit Go.Sort
set_option maxHeartbeats 4000000 in
theorem periods_high (a b c d n t : Int) (w : World) (hs : ∀ W, Sane W) (h : validB a b = true) (k : validB c d = true) (k1 : 1099511627776 < n) :
    Calls Try.prog 3 #[per a b, per c d, .int .i64 n, .int .i64 t] w fun e w' => e = .returned (.bool true) ∧ Below w.heap.size w w' := by
  have HS := Lib.hid hs; clear hs
  have k2 : 0 ≤ n := by omega
  have k3 : decide (n ≤ 1099511627776) = false := by simpa using k1
  have H := Lib.hid h; clear h
  have V := Lib.hid k; clear k
  obtain ⟨p1, q1, r1, c1, c2⟩ := meet_both a b c d
  obtain ⟨p2, q2, c3, c4⟩ := hull_both a b c d
  have C1 := Lib.hid c1; have C2 := Lib.hid c2; have C3 := Lib.hid c3; have C4 := Lib.hid c4
  clear c1 c2 c3 c4
  go_enter Try.func3, Try.ntmps3
  go_wp2_with fail
  refine (valid_ref _ _ _).mono ?_
  rintro e w1 ⟨rfl, hb1⟩
  rw [H.out]
  have B1 : Below w.heap.size w w1 := bt (by (repeat' (first | (with_reducible exact Below.refl _ _) | (with_reducible assumption) | (with_reducible refine Below.alloc ?_ ?_ _) | (with_reducible refine Below.drew ?_) | (with_reducible refine below_dn ?_) | (with_reducible refine Below.setCell ?_ ?_ _) | (with_reducible exact Nat.le_refl _) | omega | (simp only [World.size_alloc, World.size_setCell, World.size_drew]; omega) | (simp; omega) | (simp; done)))) hb1
  have s1 : w.heap.size ≤ w1.heap.size := B1.size
  have z1_p : w.heap.size < w1.heap.size := by (have := hb1.size; (try simp at this); omega)
  have x1_p : w.heap.size ≤ w1.heap.size := Nat.le_of_lt z1_p
  have d1_p_0 : w1.cell? ⟨w.heap.size, 0, none⟩ = some (.int .i64 a) := keep (by go_cell) hb1
  have d1_p_1 : w1.cell? ⟨w.heap.size, 1, none⟩ = some (.int .i64 b) := keep (by go_cell) hb1
  have z1_q : w.heap.size + 1 < w1.heap.size := by (have := hb1.size; (try simp at this); omega)
  have x1_q : w.heap.size + 1 ≤ w1.heap.size := Nat.le_of_lt z1_q
  have d1_q_0 : w1.cell? ⟨w.heap.size + 1, 0, none⟩ = some (.int .i64 c) := keep (by go_cell) hb1
  have d1_q_1 : w1.cell? ⟨w.heap.size + 1, 1, none⟩ = some (.int .i64 d) := keep (by go_cell) hb1
  clear hb1
  go_wp2_with fail
  refine (valid_ref _ _ _).mono ?_
  rintro e w2 ⟨rfl, hb2⟩
  rw [V.out]
  have B2 : Below w.heap.size w w2 := bt (by (repeat' (first | (with_reducible exact Below.refl _ _) | (with_reducible assumption) | (with_reducible refine Below.alloc ?_ ?_ _) | (with_reducible refine Below.drew ?_) | (with_reducible refine below_dn ?_) | (with_reducible refine Below.setCell ?_ ?_ _) | (with_reducible exact Nat.le_refl _) | omega | (simp only [World.size_alloc, World.size_setCell, World.size_drew]; omega) | (simp; omega) | (simp; done)))) hb2
  have s2 : w.heap.size ≤ w2.heap.size := B2.size
  have z2_p : w.heap.size < w2.heap.size := by (have := hb2.size; (try simp at this); omega)
  have x2_p : w.heap.size ≤ w2.heap.size := Nat.le_of_lt z2_p
  have d2_p_0 : w2.cell? ⟨w.heap.size, 0, none⟩ = some (.int .i64 a) := keep (by go_cell) hb2
  have d2_p_1 : w2.cell? ⟨w.heap.size, 1, none⟩ = some (.int .i64 b) := keep (by go_cell) hb2
  have z2_q : w.heap.size + 1 < w2.heap.size := by (have := hb2.size; (try simp at this); omega)
  have x2_q : w.heap.size + 1 ≤ w2.heap.size := Nat.le_of_lt z2_q
  have d2_q_0 : w2.cell? ⟨w.heap.size + 1, 0, none⟩ = some (.int .i64 c) := keep (by go_cell) hb2
  have d2_q_1 : w2.cell? ⟨w.heap.size + 1, 1, none⟩ = some (.int .i64 d) := keep (by go_cell) hb2
  clear hb2 d1_p_0 d1_p_1 d1_q_0 d1_q_1
  go_wp2_with fail
  refine (valid_any _ _ _).mono ?_
  rintro e w3 ⟨rfl, hb3⟩
  rw [H.out]
  have B3 : Below w.heap.size w w3 := bt (by (repeat' (first | (with_reducible exact Below.refl _ _) | (with_reducible assumption) | (with_reducible refine Below.alloc ?_ ?_ _) | (with_reducible refine Below.drew ?_) | (with_reducible refine below_dn ?_) | (with_reducible refine Below.setCell ?_ ?_ _) | (with_reducible exact Nat.le_refl _) | omega | (simp only [World.size_alloc, World.size_setCell, World.size_drew]; omega) | (simp; omega) | (simp; done)))) hb3
  have s3 : w.heap.size ≤ w3.heap.size := B3.size
  have z3_p : w.heap.size < w3.heap.size := by (have := hb3.size; (try simp at this); omega)
  have x3_p : w.heap.size ≤ w3.heap.size := Nat.le_of_lt z3_p
  have d3_p_0 : w3.cell? ⟨w.heap.size, 0, none⟩ = some (.int .i64 a) := keep (by go_cell) hb3
  have d3_p_1 : w3.cell? ⟨w.heap.size, 1, none⟩ = some (.int .i64 b) := keep (by go_cell) hb3
  have z3_q : w.heap.size + 1 < w3.heap.size := by (have := hb3.size; (try simp at this); omega)
  have x3_q : w.heap.size + 1 ≤ w3.heap.size := Nat.le_of_lt z3_q
  have d3_q_0 : w3.cell? ⟨w.heap.size + 1, 0, none⟩ = some (.int .i64 c) := keep (by go_cell) hb3
  have d3_q_1 : w3.cell? ⟨w.heap.size + 1, 1, none⟩ = some (.int .i64 d) := keep (by go_cell) hb3
  clear hb3 d2_p_0 d2_p_1 d2_q_0 d2_q_1
  go_wp2_with fail
  refine (valid_any _ _ _).mono ?_
  rintro e w4 ⟨rfl, hb4⟩
  rw [V.out]
  have B4 : Below w.heap.size w w4 := bt (by (repeat' (first | (with_reducible exact Below.refl _ _) | (with_reducible assumption) | (with_reducible refine Below.alloc ?_ ?_ _) | (with_reducible refine Below.drew ?_) | (with_reducible refine below_dn ?_) | (with_reducible refine Below.setCell ?_ ?_ _) | (with_reducible exact Nat.le_refl _) | omega | (simp only [World.size_alloc, World.size_setCell, World.size_drew]; omega) | (simp; omega) | (simp; done)))) hb4
  have s4 : w.heap.size ≤ w4.heap.size := B4.size
  have z4_p : w.heap.size < w4.heap.size := by (have := hb4.size; (try simp at this); omega)
  have x4_p : w.heap.size ≤ w4.heap.size := Nat.le_of_lt z4_p
  have d4_p_0 : w4.cell? ⟨w.heap.size, 0, none⟩ = some (.int .i64 a) := keep (by go_cell) hb4
  have d4_p_1 : w4.cell? ⟨w.heap.size, 1, none⟩ = some (.int .i64 b) := keep (by go_cell) hb4
  have z4_q : w.heap.size + 1 < w4.heap.size := by (have := hb4.size; (try simp at this); omega)
  have x4_q : w.heap.size + 1 ≤ w4.heap.size := Nat.le_of_lt z4_q
  have d4_q_0 : w4.cell? ⟨w.heap.size + 1, 0, none⟩ = some (.int .i64 c) := keep (by go_cell) hb4
  have d4_q_1 : w4.cell? ⟨w.heap.size + 1, 1, none⟩ = some (.int .i64 d) := keep (by go_cell) hb4
  clear hb4 d3_p_0 d3_p_1 d3_q_0 d3_q_1
  go_wp2_with fail
  refine (C1.out _).mono ?_
  rintro e w5 ⟨rfl, hb5⟩
  have B5 : Below w.heap.size w w5 := bt (by (repeat' (first | (with_reducible exact Below.refl _ _) | (with_reducible assumption) | (with_reducible refine Below.alloc ?_ ?_ _) | (with_reducible refine Below.drew ?_) | (with_reducible refine below_dn ?_) | (with_reducible refine Below.setCell ?_ ?_ _) | (with_reducible exact Nat.le_refl _) | omega | (simp only [World.size_alloc, World.size_setCell, World.size_drew]; omega) | (simp; omega) | (simp; done)))) hb5
  have s5 : w.heap.size ≤ w5.heap.size := B5.size
  have z5_p : w.heap.size < w5.heap.size := by (have := hb5.size; (try simp at this); omega)
  have x5_p : w.heap.size ≤ w5.heap.size := Nat.le_of_lt z5_p
  have d5_p_0 : w5.cell? ⟨w.heap.size, 0, none⟩ = some (.int .i64 a) := keep (by go_cell) hb5
  have d5_p_1 : w5.cell? ⟨w.heap.size, 1, none⟩ = some (.int .i64 b) := keep (by go_cell) hb5
  have z5_q : w.heap.size + 1 < w5.heap.size := by (have := hb5.size; (try simp at this); omega)
  have x5_q : w.heap.size + 1 ≤ w5.heap.size := Nat.le_of_lt z5_q
  have d5_q_0 : w5.cell? ⟨w.heap.size + 1, 0, none⟩ = some (.int .i64 c) := keep (by go_cell) hb5
  have d5_q_1 : w5.cell? ⟨w.heap.size + 1, 1, none⟩ = some (.int .i64 d) := keep (by go_cell) hb5
  clear hb5 d4_p_0 d4_p_1 d4_q_0 d4_q_1
  go_wp2_with fail
  refine (C2.out _).mono ?_
  rintro e w6 ⟨rfl, hb6⟩
  have B6 : Below w.heap.size w w6 := bt (by (repeat' (first | (with_reducible exact Below.refl _ _) | (with_reducible assumption) | (with_reducible refine Below.alloc ?_ ?_ _) | (with_reducible refine Below.drew ?_) | (with_reducible refine below_dn ?_) | (with_reducible refine Below.setCell ?_ ?_ _) | (with_reducible exact Nat.le_refl _) | omega | (simp only [World.size_alloc, World.size_setCell, World.size_drew]; omega) | (simp; omega) | (simp; done)))) hb6
  have s6 : w.heap.size ≤ w6.heap.size := B6.size
  have z6_p : w.heap.size < w6.heap.size := by (have := hb6.size; (try simp at this); omega)
  have x6_p : w.heap.size ≤ w6.heap.size := Nat.le_of_lt z6_p
  have d6_p_0 : w6.cell? ⟨w.heap.size, 0, none⟩ = some (.int .i64 a) := keep (by go_cell) hb6
  have d6_p_1 : w6.cell? ⟨w.heap.size, 1, none⟩ = some (.int .i64 b) := keep (by go_cell) hb6
  have z6_q : w.heap.size + 1 < w6.heap.size := by (have := hb6.size; (try simp at this); omega)
  have x6_q : w.heap.size + 1 ≤ w6.heap.size := Nat.le_of_lt z6_q
  have d6_q_0 : w6.cell? ⟨w.heap.size + 1, 0, none⟩ = some (.int .i64 c) := keep (by go_cell) hb6
  have d6_q_1 : w6.cell? ⟨w.heap.size + 1, 1, none⟩ = some (.int .i64 d) := keep (by go_cell) hb6
  have z6_m : w5.heap.size < w6.heap.size := by (have := hb6.size; (try simp at this); omega)
  have x6_m : w5.heap.size ≤ w6.heap.size := Nat.le_of_lt z6_m
  have d6_m_0 : w6.cell? ⟨w5.heap.size, 0, none⟩ = some (.int .i64 p1) := keep (by go_cell) hb6
  have d6_m_1 : w6.cell? ⟨w5.heap.size, 1, none⟩ = some (.int .i64 q1) := keep (by go_cell) hb6
  clear hb6 d5_p_0 d5_p_1 d5_q_0 d5_q_1
  go_wp2
  have gc := grow_cell
  refine wp_region_quiet_below (by kernel_rfl) (by kernel_rfl) ?_
  repeat (quiet_step (first | (go_at_call 15; exact Calls.regrown_of (C3.out _)) | (go_at_call 16; exact Calls.regrown_of (C4.out _))))
  refine wpQuiet_nil ?_
  intro w7 hw'
  obtain ⟨⟨dq, osq⟩, hw''⟩ := hw'
  have hb7 := below_of_grow hw''
  clear hw'' gc
  have B7 : Below w.heap.size w w7 := bt (by (repeat' (first | (with_reducible exact Below.refl _ _) | (with_reducible assumption) | (with_reducible refine Below.alloc ?_ ?_ _) | (with_reducible refine Below.drew ?_) | (with_reducible refine below_dn ?_) | (with_reducible refine Below.setCell ?_ ?_ _) | (with_reducible exact Nat.le_refl _) | omega | (simp only [World.size_alloc, World.size_setCell, World.size_drew]; omega) | (simp; omega) | (simp; done)))) hb7
  have s7 : w.heap.size ≤ w7.heap.size := B7.size
  have z7_p : w.heap.size < w7.heap.size := by (have := hb7.size; (try simp at this); omega)
  have x7_p : w.heap.size ≤ w7.heap.size := Nat.le_of_lt z7_p
  have d7_p_0 : w7.cell? ⟨w.heap.size, 0, none⟩ = some (.int .i64 a) := keep (by go_cell) hb7
  have d7_p_1 : w7.cell? ⟨w.heap.size, 1, none⟩ = some (.int .i64 b) := keep (by go_cell) hb7
  have z7_q : w.heap.size + 1 < w7.heap.size := by (have := hb7.size; (try simp at this); omega)
  have x7_q : w.heap.size + 1 ≤ w7.heap.size := Nat.le_of_lt z7_q
  have d7_q_0 : w7.cell? ⟨w.heap.size + 1, 0, none⟩ = some (.int .i64 c) := keep (by go_cell) hb7
  have d7_q_1 : w7.cell? ⟨w.heap.size + 1, 1, none⟩ = some (.int .i64 d) := keep (by go_cell) hb7
  have z7_m : w5.heap.size < w7.heap.size := by (have := hb7.size; (try simp at this); omega)
  have x7_m : w5.heap.size ≤ w7.heap.size := Nat.le_of_lt z7_m
  have d7_m_0 : w7.cell? ⟨w5.heap.size, 0, none⟩ = some (.int .i64 p1) := keep (by go_cell) hb7
  have d7_m_1 : w7.cell? ⟨w5.heap.size, 1, none⟩ = some (.int .i64 q1) := keep (by go_cell) hb7
  have z7_o : w6.heap.size < w7.heap.size := by (have := hb7.size; (try simp at this); omega)
  have x7_o : w6.heap.size ≤ w7.heap.size := Nat.le_of_lt z7_o
  have d7_o_0 : w7.cell? ⟨w6.heap.size, 0, none⟩ = some (.int .i64 p1) := keep (by go_cell) hb7
  have d7_o_1 : w7.cell? ⟨w6.heap.size, 1, none⟩ = some (.int .i64 q1) := keep (by go_cell) hb7
  have d7_o_2 : w7.cell? ⟨w6.heap.size, 2, none⟩ = some (.bool r1) := keep (by go_cell) hb7
  clear hb7 d6_p_0 d6_p_1 d6_q_0 d6_q_1 d6_m_0 d6_m_1
  go_wp2
  have gc := grow_cell
  refine wp_region_quiet_below (by kernel_rfl) (by kernel_rfl) ?_
  repeat (quiet_step (first | (go_at_call 12; exact Calls.regrown_of (HS.out _))))
  refine wpQuiet_nil ?_
  intro w8 hw'
  obtain ⟨⟨dq, osq⟩, hw''⟩ := hw'
  have hb8 := below_of_grow hw''
  clear hw'' gc
  have B8 : Below w.heap.size w w8 := bt (by (repeat' (first | (with_reducible exact Below.refl _ _) | (with_reducible assumption) | (with_reducible refine Below.alloc ?_ ?_ _) | (with_reducible refine Below.drew ?_) | (with_reducible refine below_dn ?_) | (with_reducible refine Below.setCell ?_ ?_ _) | (with_reducible exact Nat.le_refl _) | omega | (simp only [World.size_alloc, World.size_setCell, World.size_drew]; omega) | (simp; omega) | (simp; done)))) hb8
  have s8 : w.heap.size ≤ w8.heap.size := B8.size
  have z8_p : w.heap.size < w8.heap.size := by (have := hb8.size; (try simp at this); omega)
  have x8_p : w.heap.size ≤ w8.heap.size := Nat.le_of_lt z8_p
  have d8_p_0 : w8.cell? ⟨w.heap.size, 0, none⟩ = some (.int .i64 a) := keep (by go_cell) hb8
  have d8_p_1 : w8.cell? ⟨w.heap.size, 1, none⟩ = some (.int .i64 b) := keep (by go_cell) hb8
  have z8_q : w.heap.size + 1 < w8.heap.size := by (have := hb8.size; (try simp at this); omega)
  have x8_q : w.heap.size + 1 ≤ w8.heap.size := Nat.le_of_lt z8_q
  have d8_q_0 : w8.cell? ⟨w.heap.size + 1, 0, none⟩ = some (.int .i64 c) := keep (by go_cell) hb8
  have d8_q_1 : w8.cell? ⟨w.heap.size + 1, 1, none⟩ = some (.int .i64 d) := keep (by go_cell) hb8
  have z8_m : w5.heap.size < w8.heap.size := by (have := hb8.size; (try simp at this); omega)
  have x8_m : w5.heap.size ≤ w8.heap.size := Nat.le_of_lt z8_m
  have d8_m_0 : w8.cell? ⟨w5.heap.size, 0, none⟩ = some (.int .i64 p1) := keep (by go_cell) hb8
  have d8_m_1 : w8.cell? ⟨w5.heap.size, 1, none⟩ = some (.int .i64 q1) := keep (by go_cell) hb8
  have z8_o : w6.heap.size < w8.heap.size := by (have := hb8.size; (try simp at this); omega)
  have x8_o : w6.heap.size ≤ w8.heap.size := Nat.le_of_lt z8_o
  have d8_o_0 : w8.cell? ⟨w6.heap.size, 0, none⟩ = some (.int .i64 p1) := keep (by go_cell) hb8
  have d8_o_1 : w8.cell? ⟨w6.heap.size, 1, none⟩ = some (.int .i64 q1) := keep (by go_cell) hb8
  have d8_o_2 : w8.cell? ⟨w6.heap.size, 2, none⟩ = some (.bool r1) := keep (by go_cell) hb8
  clear hb8 d7_p_0 d7_p_1 d7_q_0 d7_q_1 d7_m_0 d7_m_1 d7_o_0 d7_o_1 d7_o_2
  go_wp2
  have gc := grow_cell
  refine wp_region_quiet_below (by kernel_rfl) (by kernel_rfl) ?_
  repeat (quiet_step (first | (go_at_call 12; exact Calls.regrown_of (HS.out _)) | (go_at_call 19; exact Calls.regrown_of (before_any _ _ _ _)) | (go_at_call 20; exact Calls.regrown_of (before_ref _ _ _ _)) | (go_at_call 21; exact Calls.regrown_of (from_any _ _ _ _)) | (go_at_call 22; exact Calls.regrown_of (from_ref _ _ _ _))))
  refine wpQuiet_nil ?_
  intro w9 hw'
  obtain ⟨⟨dq, osq⟩, hw''⟩ := hw'
  have hb9 := below_of_grow hw''
  clear hw'' gc
  have B9 : Below w.heap.size w w9 := bt (by (repeat' (first | (with_reducible exact Below.refl _ _) | (with_reducible assumption) | (with_reducible refine Below.alloc ?_ ?_ _) | (with_reducible refine Below.drew ?_) | (with_reducible refine below_dn ?_) | (with_reducible refine Below.setCell ?_ ?_ _) | (with_reducible exact Nat.le_refl _) | omega | (simp only [World.size_alloc, World.size_setCell, World.size_drew]; omega) | (simp; omega) | (simp; done)))) hb9
  have s9 : w.heap.size ≤ w9.heap.size := B9.size
  have z9_p : w.heap.size < w9.heap.size := by (have := hb9.size; (try simp at this); omega)
  have x9_p : w.heap.size ≤ w9.heap.size := Nat.le_of_lt z9_p
  have d9_p_0 : w9.cell? ⟨w.heap.size, 0, none⟩ = some (.int .i64 a) := keep (by go_cell) hb9
  have d9_p_1 : w9.cell? ⟨w.heap.size, 1, none⟩ = some (.int .i64 b) := keep (by go_cell) hb9
  have z9_q : w.heap.size + 1 < w9.heap.size := by (have := hb9.size; (try simp at this); omega)
  have x9_q : w.heap.size + 1 ≤ w9.heap.size := Nat.le_of_lt z9_q
  have d9_q_0 : w9.cell? ⟨w.heap.size + 1, 0, none⟩ = some (.int .i64 c) := keep (by go_cell) hb9
  have d9_q_1 : w9.cell? ⟨w.heap.size + 1, 1, none⟩ = some (.int .i64 d) := keep (by go_cell) hb9
  have z9_m : w5.heap.size < w9.heap.size := by (have := hb9.size; (try simp at this); omega)
  have x9_m : w5.heap.size ≤ w9.heap.size := Nat.le_of_lt z9_m
  have d9_m_0 : w9.cell? ⟨w5.heap.size, 0, none⟩ = some (.int .i64 p1) := keep (by go_cell) hb9
  have d9_m_1 : w9.cell? ⟨w5.heap.size, 1, none⟩ = some (.int .i64 q1) := keep (by go_cell) hb9
  have z9_o : w6.heap.size < w9.heap.size := by (have := hb9.size; (try simp at this); omega)
  have x9_o : w6.heap.size ≤ w9.heap.size := Nat.le_of_lt z9_o
  have d9_o_0 : w9.cell? ⟨w6.heap.size, 0, none⟩ = some (.int .i64 p1) := keep (by go_cell) hb9
  have d9_o_1 : w9.cell? ⟨w6.heap.size, 1, none⟩ = some (.int .i64 q1) := keep (by go_cell) hb9
  have d9_o_2 : w9.cell? ⟨w6.heap.size, 2, none⟩ = some (.bool r1) := keep (by go_cell) hb9
  clear hb9 d8_p_0 d8_p_1 d8_q_0 d8_q_1 d8_m_0 d8_m_1 d8_o_0 d8_o_1 d8_o_2
  go_wp2
  all_goals
    go_ret
    exact ⟨ret_bool (by first | rfl | (apply decide_eq_true; omega) | (simp; omega)), by (repeat' (first | (with_reducible exact Below.refl _ _) | (with_reducible assumption) | (with_reducible refine Below.alloc ?_ ?_ _) | (with_reducible refine Below.drew ?_) | (with_reducible refine below_dn ?_) | (with_reducible refine Below.setCell ?_ ?_ _) | (with_reducible exact Nat.le_refl _) | omega | (simp only [World.size_alloc, World.size_setCell, World.size_drew]; omega) | (simp; omega) | (simp; done)))⟩
end Go.Proofs.Ytnojnfmhinjcpaa
