import Derived.Test.YtigalbgailnicaaC
namespace Go.Proofs.Ytigalbgailnicaa
set_option linter.unusedVariables false
set_option linter.unusedSimpArgs false
open Go.RowKit
set_option maxHeartbeats 800000 in
theorem waitref_arg (c n d l a k : Int) (w : World) (h : ¬ OkB c n d l a) :
    Calls Try.prog 17 #[bk c n d l a, .int .i64 k] w fun e w' => e = .returned (num (0) 1) ∧ Below w.heap.size w w' := by
  have H := Lib.hid h; clear h
  go_enter Try.func17, Try.ntmps17
  go_wp2_with fail
  refine (validref_no _ _ _ _ _ _ H.out).mono ?_
  rintro e w1 ⟨rfl, hb1⟩
  have B1 : Below w.heap.size w w1 := bt (by (repeat' (first | (with_reducible exact Below.refl _ _) | (with_reducible assumption) | (with_reducible refine Below.alloc ?_ ?_ _) | (with_reducible refine Below.drew ?_) | (with_reducible refine below_dn ?_) | (with_reducible refine Below.setCell ?_ ?_ _) | (with_reducible exact Nat.le_refl _) | omega | (simp only [World.size_alloc, World.size_setCell, World.size_drew]; omega) | (simp; omega) | (simp; done)))) hb1
  have s1 : w.heap.size ≤ w1.heap.size := B1.size
  have z1_b : w.heap.size < w1.heap.size := by (have := hb1.size; (try simp at this); omega)
  have x1_b : w.heap.size ≤ w1.heap.size := Nat.le_of_lt z1_b
  have d1_b_0 : w1.cell? ⟨w.heap.size, 0, none⟩ = some (.int .i64 c) := keep (by go_cell) hb1
  have d1_b_1 : w1.cell? ⟨w.heap.size, 1, none⟩ = some (.int .i64 n) := keep (by go_cell) hb1
  have d1_b_2 : w1.cell? ⟨w.heap.size, 2, none⟩ = some (.int .i64 d) := keep (by go_cell) hb1
  have d1_b_3 : w1.cell? ⟨w.heap.size, 3, none⟩ = some (.int .i64 l) := keep (by go_cell) hb1
  have d1_b_4 : w1.cell? ⟨w.heap.size, 4, none⟩ = some (.int .i64 a) := keep (by go_cell) hb1
  have z1_r : w.heap.size + 1 < w1.heap.size := by (have := hb1.size; (try simp at this); omega)
  have x1_r : w.heap.size + 1 ≤ w1.heap.size := Nat.le_of_lt z1_r
  have d1_r_0 : w1.cell? ⟨w.heap.size + 1, 0, none⟩ = some (.int .i64 0) := keep (by go_cell) hb1
  have d1_r_1 : w1.cell? ⟨w.heap.size + 1, 1, none⟩ = some (.int .i64 0) := keep (by go_cell) hb1
  have f1_r : ∀ o, w1.frozen? ⟨w.heap.size + 1, o, none⟩ = false := fun o => (hb1.frozen (p := ⟨w.heap.size + 1, o, none⟩) (by (try simp); (try omega))).trans (by simp [go_sem, *])
  clear hb1
  go_wp2
  refine bodyPost_ret (v := num (0) 1) (by simp [results, Try.results17, go_sem, d1_b_0, d1_b_1, d1_b_2, d1_b_3, d1_b_4, d1_r_0, d1_r_1, f1_r, z1_b, z1_r]; try rfl) rfl ⟨rfl, by first | ((repeat' (first | (with_reducible exact Below.refl _ _) | (with_reducible assumption) | (with_reducible refine Below.alloc ?_ ?_ _) | (with_reducible refine Below.drew ?_) | (with_reducible refine below_dn ?_) | (with_reducible refine Below.setCell ?_ ?_ _) | (with_reducible exact Nat.le_refl _) | omega | (simp only [World.size_alloc, World.size_setCell, World.size_drew]; omega) | (simp; omega) | (simp; done))); done) | (refine below_dn ?_; (repeat' (first | (with_reducible exact Below.refl _ _) | (with_reducible assumption) | (with_reducible refine Below.alloc ?_ ?_ _) | (with_reducible refine Below.drew ?_) | (with_reducible refine below_dn ?_) | (with_reducible refine Below.setCell ?_ ?_ _) | (with_reducible exact Nat.le_refl _) | omega | (simp only [World.size_alloc, World.size_setCell, World.size_drew]; omega) | (simp; omega) | (simp; done))); done) | ((repeat' (first | (with_reducible exact Below.refl _ _) | (with_reducible assumption) | (with_reducible refine Below.alloc ?_ ?_ _) | (with_reducible refine Below.drew ?_) | (with_reducible refine below_dn ?_) | (with_reducible refine Below.setCell ?_ ?_ _) | (with_reducible exact Nat.le_refl _) | omega | (simp only [World.size_alloc, World.size_setCell, World.size_drew]; omega) | (simp; omega) | (simp; done))); refine below_dn ?_; (repeat' (first | (with_reducible exact Below.refl _ _) | (with_reducible assumption) | (with_reducible refine Below.alloc ?_ ?_ _) | (with_reducible refine Below.drew ?_) | (with_reducible refine below_dn ?_) | (with_reducible refine Below.setCell ?_ ?_ _) | (with_reducible exact Nat.le_refl _) | omega | (simp only [World.size_alloc, World.size_setCell, World.size_drew]; omega) | (simp; omega) | (simp; done))); done)⟩
set_option maxHeartbeats 800000 in
theorem waitref_num1 (c n d l a k : Int) (w : World) (h : OkB c n d l a) (hk : k < 1) :
    Calls Try.prog 17 #[bk c n d l a, .int .i64 k] w fun e w' => e = .returned (num (0) 1) ∧ Below w.heap.size w w' := by
  have H := Lib.hid h; clear h
  go_enter Try.func17, Try.ntmps17
  go_wp2_with fail
  refine (validref_yes _ _ _ _ _ _ H.out).mono ?_
  rintro e w1 ⟨rfl, hb1⟩
  have B1 : Below w.heap.size w w1 := bt (by (repeat' (first | (with_reducible exact Below.refl _ _) | (with_reducible assumption) | (with_reducible refine Below.alloc ?_ ?_ _) | (with_reducible refine Below.drew ?_) | (with_reducible refine below_dn ?_) | (with_reducible refine Below.setCell ?_ ?_ _) | (with_reducible exact Nat.le_refl _) | omega | (simp only [World.size_alloc, World.size_setCell, World.size_drew]; omega) | (simp; omega) | (simp; done)))) hb1
  have s1 : w.heap.size ≤ w1.heap.size := B1.size
  have z1_b : w.heap.size < w1.heap.size := by (have := hb1.size; (try simp at this); omega)
  have x1_b : w.heap.size ≤ w1.heap.size := Nat.le_of_lt z1_b
  have d1_b_0 : w1.cell? ⟨w.heap.size, 0, none⟩ = some (.int .i64 c) := keep (by go_cell) hb1
  have d1_b_1 : w1.cell? ⟨w.heap.size, 1, none⟩ = some (.int .i64 n) := keep (by go_cell) hb1
  have d1_b_2 : w1.cell? ⟨w.heap.size, 2, none⟩ = some (.int .i64 d) := keep (by go_cell) hb1
  have d1_b_3 : w1.cell? ⟨w.heap.size, 3, none⟩ = some (.int .i64 l) := keep (by go_cell) hb1
  have d1_b_4 : w1.cell? ⟨w.heap.size, 4, none⟩ = some (.int .i64 a) := keep (by go_cell) hb1
  have z1_r : w.heap.size + 1 < w1.heap.size := by (have := hb1.size; (try simp at this); omega)
  have x1_r : w.heap.size + 1 ≤ w1.heap.size := Nat.le_of_lt z1_r
  have d1_r_0 : w1.cell? ⟨w.heap.size + 1, 0, none⟩ = some (.int .i64 0) := keep (by go_cell) hb1
  have d1_r_1 : w1.cell? ⟨w.heap.size + 1, 1, none⟩ = some (.int .i64 0) := keep (by go_cell) hb1
  have f1_r : ∀ o, w1.frozen? ⟨w.heap.size + 1, o, none⟩ = false := fun o => (hb1.frozen (p := ⟨w.heap.size + 1, o, none⟩) (by (try simp); (try omega))).trans (by simp [go_sem, *])
  clear hb1
  go_wp2
  refine bodyPost_ret (v := num (0) 1) (by simp [results, Try.results17, go_sem, d1_b_0, d1_b_1, d1_b_2, d1_b_3, d1_b_4, d1_r_0, d1_r_1, f1_r, z1_b, z1_r]; try rfl) rfl ⟨rfl, by first | ((repeat' (first | (with_reducible exact Below.refl _ _) | (with_reducible assumption) | (with_reducible refine Below.alloc ?_ ?_ _) | (with_reducible refine Below.drew ?_) | (with_reducible refine below_dn ?_) | (with_reducible refine Below.setCell ?_ ?_ _) | (with_reducible exact Nat.le_refl _) | omega | (simp only [World.size_alloc, World.size_setCell, World.size_drew]; omega) | (simp; omega) | (simp; done))); done) | (refine below_dn ?_; (repeat' (first | (with_reducible exact Below.refl _ _) | (with_reducible assumption) | (with_reducible refine Below.alloc ?_ ?_ _) | (with_reducible refine Below.drew ?_) | (with_reducible refine below_dn ?_) | (with_reducible refine Below.setCell ?_ ?_ _) | (with_reducible exact Nat.le_refl _) | omega | (simp only [World.size_alloc, World.size_setCell, World.size_drew]; omega) | (simp; omega) | (simp; done))); done) | ((repeat' (first | (with_reducible exact Below.refl _ _) | (with_reducible assumption) | (with_reducible refine Below.alloc ?_ ?_ _) | (with_reducible refine Below.drew ?_) | (with_reducible refine below_dn ?_) | (with_reducible refine Below.setCell ?_ ?_ _) | (with_reducible exact Nat.le_refl _) | omega | (simp only [World.size_alloc, World.size_setCell, World.size_drew]; omega) | (simp; omega) | (simp; done))); refine below_dn ?_; (repeat' (first | (with_reducible exact Below.refl _ _) | (with_reducible assumption) | (with_reducible refine Below.alloc ?_ ?_ _) | (with_reducible refine Below.drew ?_) | (with_reducible refine below_dn ?_) | (with_reducible refine Below.setCell ?_ ?_ _) | (with_reducible exact Nat.le_refl _) | omega | (simp only [World.size_alloc, World.size_setCell, World.size_drew]; omega) | (simp; omega) | (simp; done))); done)⟩
set_option maxHeartbeats 800000 in
theorem waitref_num2 (c n d l a k : Int) (w : World) (h : OkB c n d l a) (hk : 1073741824 < k) :
    Calls Try.prog 17 #[bk c n d l a, .int .i64 k] w fun e w' => e = .returned (num (0) 1) ∧ Below w.heap.size w w' := by
  have H := Lib.hid h; clear h
  have hk1 : 1 ≤ k := by omega
  go_enter Try.func17, Try.ntmps17
  go_wp2_with fail
  refine (validref_yes _ _ _ _ _ _ H.out).mono ?_
  rintro e w1 ⟨rfl, hb1⟩
  have B1 : Below w.heap.size w w1 := bt (by (repeat' (first | (with_reducible exact Below.refl _ _) | (with_reducible assumption) | (with_reducible refine Below.alloc ?_ ?_ _) | (with_reducible refine Below.drew ?_) | (with_reducible refine below_dn ?_) | (with_reducible refine Below.setCell ?_ ?_ _) | (with_reducible exact Nat.le_refl _) | omega | (simp only [World.size_alloc, World.size_setCell, World.size_drew]; omega) | (simp; omega) | (simp; done)))) hb1
  have s1 : w.heap.size ≤ w1.heap.size := B1.size
  have z1_b : w.heap.size < w1.heap.size := by (have := hb1.size; (try simp at this); omega)
  have x1_b : w.heap.size ≤ w1.heap.size := Nat.le_of_lt z1_b
  have d1_b_0 : w1.cell? ⟨w.heap.size, 0, none⟩ = some (.int .i64 c) := keep (by go_cell) hb1
  have d1_b_1 : w1.cell? ⟨w.heap.size, 1, none⟩ = some (.int .i64 n) := keep (by go_cell) hb1
  have d1_b_2 : w1.cell? ⟨w.heap.size, 2, none⟩ = some (.int .i64 d) := keep (by go_cell) hb1
  have d1_b_3 : w1.cell? ⟨w.heap.size, 3, none⟩ = some (.int .i64 l) := keep (by go_cell) hb1
  have d1_b_4 : w1.cell? ⟨w.heap.size, 4, none⟩ = some (.int .i64 a) := keep (by go_cell) hb1
  have z1_r : w.heap.size + 1 < w1.heap.size := by (have := hb1.size; (try simp at this); omega)
  have x1_r : w.heap.size + 1 ≤ w1.heap.size := Nat.le_of_lt z1_r
  have d1_r_0 : w1.cell? ⟨w.heap.size + 1, 0, none⟩ = some (.int .i64 0) := keep (by go_cell) hb1
  have d1_r_1 : w1.cell? ⟨w.heap.size + 1, 1, none⟩ = some (.int .i64 0) := keep (by go_cell) hb1
  have f1_r : ∀ o, w1.frozen? ⟨w.heap.size + 1, o, none⟩ = false := fun o => (hb1.frozen (p := ⟨w.heap.size + 1, o, none⟩) (by (try simp); (try omega))).trans (by simp [go_sem, *])
  clear hb1
  go_wp2
  refine bodyPost_ret (v := num (0) 1) (by simp [results, Try.results17, go_sem, d1_b_0, d1_b_1, d1_b_2, d1_b_3, d1_b_4, d1_r_0, d1_r_1, f1_r, z1_b, z1_r]; try rfl) rfl ⟨rfl, by first | ((repeat' (first | (with_reducible exact Below.refl _ _) | (with_reducible assumption) | (with_reducible refine Below.alloc ?_ ?_ _) | (with_reducible refine Below.drew ?_) | (with_reducible refine below_dn ?_) | (with_reducible refine Below.setCell ?_ ?_ _) | (with_reducible exact Nat.le_refl _) | omega | (simp only [World.size_alloc, World.size_setCell, World.size_drew]; omega) | (simp; omega) | (simp; done))); done) | (refine below_dn ?_; (repeat' (first | (with_reducible exact Below.refl _ _) | (with_reducible assumption) | (with_reducible refine Below.alloc ?_ ?_ _) | (with_reducible refine Below.drew ?_) | (with_reducible refine below_dn ?_) | (with_reducible refine Below.setCell ?_ ?_ _) | (with_reducible exact Nat.le_refl _) | omega | (simp only [World.size_alloc, World.size_setCell, World.size_drew]; omega) | (simp; omega) | (simp; done))); done) | ((repeat' (first | (with_reducible exact Below.refl _ _) | (with_reducible assumption) | (with_reducible refine Below.alloc ?_ ?_ _) | (with_reducible refine Below.drew ?_) | (with_reducible refine below_dn ?_) | (with_reducible refine Below.setCell ?_ ?_ _) | (with_reducible exact Nat.le_refl _) | omega | (simp only [World.size_alloc, World.size_setCell, World.size_drew]; omega) | (simp; omega) | (simp; done))); refine below_dn ?_; (repeat' (first | (with_reducible exact Below.refl _ _) | (with_reducible assumption) | (with_reducible refine Below.alloc ?_ ?_ _) | (with_reducible refine Below.drew ?_) | (with_reducible refine below_dn ?_) | (with_reducible refine Below.setCell ?_ ?_ _) | (with_reducible exact Nat.le_refl _) | omega | (simp only [World.size_alloc, World.size_setCell, World.size_drew]; omega) | (simp; omega) | (simp; done))); done)⟩
set_option maxHeartbeats 1500000 in
theorem waitref_limit (c n d l a k : Int) (w : World) (h : OkB c n d l a) (hk1 : 1 ≤ k) (hk2 : k ≤ 1073741824) (hc : c < k) :
    Calls Try.prog 17 #[bk c n d l a, .int .i64 k] w fun e w' => e = .returned (num (0) 2) ∧ Below w.heap.size w w' := by
  obtain ⟨p1, p2⟩ := h.prod
  have H := Lib.hid h
  obtain ⟨h1, h2, h3, h4, h5, h6, h7, h8, h9, h10⟩ := h
  have h8b : l ≤ 1125899906842624 := by omega
  clear h8 p1 p2
  go_enter Try.func17, Try.ntmps17
  go_wp2_with fail
  refine (validref_yes _ _ _ _ _ _ H.out).mono ?_
  rintro e w1 ⟨rfl, hb1⟩
  have B1 : Below w.heap.size w w1 := bt (by (repeat' (first | (with_reducible exact Below.refl _ _) | (with_reducible assumption) | (with_reducible refine Below.alloc ?_ ?_ _) | (with_reducible refine Below.drew ?_) | (with_reducible refine below_dn ?_) | (with_reducible refine Below.setCell ?_ ?_ _) | (with_reducible exact Nat.le_refl _) | omega | (simp only [World.size_alloc, World.size_setCell, World.size_drew]; omega) | (simp; omega) | (simp; done)))) hb1
  have s1 : w.heap.size ≤ w1.heap.size := B1.size
  have z1_b : w.heap.size < w1.heap.size := by (have := hb1.size; (try simp at this); omega)
  have x1_b : w.heap.size ≤ w1.heap.size := Nat.le_of_lt z1_b
  have d1_b_0 : w1.cell? ⟨w.heap.size, 0, none⟩ = some (.int .i64 c) := keep (by go_cell) hb1
  have d1_b_1 : w1.cell? ⟨w.heap.size, 1, none⟩ = some (.int .i64 n) := keep (by go_cell) hb1
  have d1_b_2 : w1.cell? ⟨w.heap.size, 2, none⟩ = some (.int .i64 d) := keep (by go_cell) hb1
  have d1_b_3 : w1.cell? ⟨w.heap.size, 3, none⟩ = some (.int .i64 l) := keep (by go_cell) hb1
  have d1_b_4 : w1.cell? ⟨w.heap.size, 4, none⟩ = some (.int .i64 a) := keep (by go_cell) hb1
  have z1_r : w.heap.size + 1 < w1.heap.size := by (have := hb1.size; (try simp at this); omega)
  have x1_r : w.heap.size + 1 ≤ w1.heap.size := Nat.le_of_lt z1_r
  have d1_r_0 : w1.cell? ⟨w.heap.size + 1, 0, none⟩ = some (.int .i64 0) := keep (by go_cell) hb1
  have d1_r_1 : w1.cell? ⟨w.heap.size + 1, 1, none⟩ = some (.int .i64 0) := keep (by go_cell) hb1
  have f1_r : ∀ o, w1.frozen? ⟨w.heap.size + 1, o, none⟩ = false := fun o => (hb1.frozen (p := ⟨w.heap.size + 1, o, none⟩) (by (try simp); (try omega))).trans (by simp [go_sem, *])
  clear hb1
  go_wp2
  refine bodyPost_ret (v := num (0) 2) (by simp [results, Try.results17, go_sem, d1_b_0, d1_b_1, d1_b_2, d1_b_3, d1_b_4, d1_r_0, d1_r_1, f1_r, z1_b, z1_r]; try rfl) rfl ⟨rfl, by first | ((repeat' (first | (with_reducible exact Below.refl _ _) | (with_reducible assumption) | (with_reducible refine Below.alloc ?_ ?_ _) | (with_reducible refine Below.drew ?_) | (with_reducible refine below_dn ?_) | (with_reducible refine Below.setCell ?_ ?_ _) | (with_reducible exact Nat.le_refl _) | omega | (simp only [World.size_alloc, World.size_setCell, World.size_drew]; omega) | (simp; omega) | (simp; done))); done) | (refine below_dn ?_; (repeat' (first | (with_reducible exact Below.refl _ _) | (with_reducible assumption) | (with_reducible refine Below.alloc ?_ ?_ _) | (with_reducible refine Below.drew ?_) | (with_reducible refine below_dn ?_) | (with_reducible refine Below.setCell ?_ ?_ _) | (with_reducible exact Nat.le_refl _) | omega | (simp only [World.size_alloc, World.size_setCell, World.size_drew]; omega) | (simp; omega) | (simp; done))); done) | ((repeat' (first | (with_reducible exact Below.refl _ _) | (with_reducible assumption) | (with_reducible refine Below.alloc ?_ ?_ _) | (with_reducible refine Below.drew ?_) | (with_reducible refine below_dn ?_) | (with_reducible refine Below.setCell ?_ ?_ _) | (with_reducible exact Nat.le_refl _) | omega | (simp only [World.size_alloc, World.size_setCell, World.size_drew]; omega) | (simp; omega) | (simp; done))); refine below_dn ?_; (repeat' (first | (with_reducible exact Below.refl _ _) | (with_reducible assumption) | (with_reducible refine Below.alloc ?_ ?_ _) | (with_reducible refine Below.drew ?_) | (with_reducible refine below_dn ?_) | (with_reducible refine Below.setCell ?_ ?_ _) | (with_reducible exact Nat.le_refl _) | omega | (simp only [World.size_alloc, World.size_setCell, World.size_drew]; omega) | (simp; omega) | (simp; done))); done)⟩
set_option maxHeartbeats 1500000 in
theorem waitref_now (c n d l a k : Int) (w : World) (h : OkB c n d l a) (hk1 : 1 ≤ k) (hk2 : k ≤ 1073741824) (hc : k ≤ c) (hl : k * d ≤ l) :
    Calls Try.prog 17 #[bk c n d l a, .int .i64 k] w fun e w' => e = .returned (num (a) 0) ∧ Below w.heap.size w w' := by
  obtain ⟨p1, p2⟩ := h.prod
  have H := Lib.hid h
  obtain ⟨h1, h2, h3, h4, h5, h6, h7, h8, h9, h10⟩ := h
  have h8b : l ≤ 1125899906842624 := by omega
  obtain ⟨m1, m2⟩ := mul_bd k d 1073741824 1048576 (by omega) (by omega) (by omega) h6
  obtain ⟨M, hM⟩ : ∃ M, k * d = M := ⟨_, rfl⟩
  rw [hM] at m1 m2
  try rw [hM]
  rw [hM] at hl
  clear h8 p1 p2
  go_enter Try.func17, Try.ntmps17
  go_wp2_with fail
  refine (validref_yes _ _ _ _ _ _ H.out).mono ?_
  rintro e w1 ⟨rfl, hb1⟩
  have B1 : Below w.heap.size w w1 := bt (by (repeat' (first | (with_reducible exact Below.refl _ _) | (with_reducible assumption) | (with_reducible refine Below.alloc ?_ ?_ _) | (with_reducible refine Below.drew ?_) | (with_reducible refine below_dn ?_) | (with_reducible refine Below.setCell ?_ ?_ _) | (with_reducible exact Nat.le_refl _) | omega | (simp only [World.size_alloc, World.size_setCell, World.size_drew]; omega) | (simp; omega) | (simp; done)))) hb1
  have s1 : w.heap.size ≤ w1.heap.size := B1.size
  have z1_b : w.heap.size < w1.heap.size := by (have := hb1.size; (try simp at this); omega)
  have x1_b : w.heap.size ≤ w1.heap.size := Nat.le_of_lt z1_b
  have d1_b_0 : w1.cell? ⟨w.heap.size, 0, none⟩ = some (.int .i64 c) := keep (by go_cell) hb1
  have d1_b_1 : w1.cell? ⟨w.heap.size, 1, none⟩ = some (.int .i64 n) := keep (by go_cell) hb1
  have d1_b_2 : w1.cell? ⟨w.heap.size, 2, none⟩ = some (.int .i64 d) := keep (by go_cell) hb1
  have d1_b_3 : w1.cell? ⟨w.heap.size, 3, none⟩ = some (.int .i64 l) := keep (by go_cell) hb1
  have d1_b_4 : w1.cell? ⟨w.heap.size, 4, none⟩ = some (.int .i64 a) := keep (by go_cell) hb1
  have z1_r : w.heap.size + 1 < w1.heap.size := by (have := hb1.size; (try simp at this); omega)
  have x1_r : w.heap.size + 1 ≤ w1.heap.size := Nat.le_of_lt z1_r
  have d1_r_0 : w1.cell? ⟨w.heap.size + 1, 0, none⟩ = some (.int .i64 0) := keep (by go_cell) hb1
  have d1_r_1 : w1.cell? ⟨w.heap.size + 1, 1, none⟩ = some (.int .i64 0) := keep (by go_cell) hb1
  have f1_r : ∀ o, w1.frozen? ⟨w.heap.size + 1, o, none⟩ = false := fun o => (hb1.frozen (p := ⟨w.heap.size + 1, o, none⟩) (by (try simp); (try omega))).trans (by simp [go_sem, *])
  clear hb1
  go_wp2
  refine bodyPost_ret (v := num (a) 0) (by simp [results, Try.results17, go_sem, d1_b_0, d1_b_1, d1_b_2, d1_b_3, d1_b_4, d1_r_0, d1_r_1, f1_r, z1_b, z1_r]; try rfl) rfl ⟨rfl, by first | ((repeat' (first | (with_reducible exact Below.refl _ _) | (with_reducible assumption) | (with_reducible refine Below.alloc ?_ ?_ _) | (with_reducible refine Below.drew ?_) | (with_reducible refine below_dn ?_) | (with_reducible refine Below.setCell ?_ ?_ _) | (with_reducible exact Nat.le_refl _) | omega | (simp only [World.size_alloc, World.size_setCell, World.size_drew]; omega) | (simp; omega) | (simp; done))); done) | (refine below_dn ?_; (repeat' (first | (with_reducible exact Below.refl _ _) | (with_reducible assumption) | (with_reducible refine Below.alloc ?_ ?_ _) | (with_reducible refine Below.drew ?_) | (with_reducible refine below_dn ?_) | (with_reducible refine Below.setCell ?_ ?_ _) | (with_reducible exact Nat.le_refl _) | omega | (simp only [World.size_alloc, World.size_setCell, World.size_drew]; omega) | (simp; omega) | (simp; done))); done) | ((repeat' (first | (with_reducible exact Below.refl _ _) | (with_reducible assumption) | (with_reducible refine Below.alloc ?_ ?_ _) | (with_reducible refine Below.drew ?_) | (with_reducible refine below_dn ?_) | (with_reducible refine Below.setCell ?_ ?_ _) | (with_reducible exact Nat.le_refl _) | omega | (simp only [World.size_alloc, World.size_setCell, World.size_drew]; omega) | (simp; omega) | (simp; done))); refine below_dn ?_; (repeat' (first | (with_reducible exact Below.refl _ _) | (with_reducible assumption) | (with_reducible refine Below.alloc ?_ ?_ _) | (with_reducible refine Below.drew ?_) | (with_reducible refine below_dn ?_) | (with_reducible refine Below.setCell ?_ ?_ _) | (with_reducible exact Nat.le_refl _) | omega | (simp only [World.size_alloc, World.size_setCell, World.size_drew]; omega) | (simp; omega) | (simp; done))); done)⟩
set_option maxHeartbeats 1500000 in
theorem waitref_never (c n d l a k : Int) (w : World) (h : OkB c n d l a) (hk1 : 1 ≤ k) (hk2 : k ≤ 1073741824) (hc : k ≤ c) (hl : l < k * d) (hn : n = 0) :
    Calls Try.prog 17 #[bk c n d l a, .int .i64 k] w fun e w' => e = .returned (num (0) 4) ∧ Below w.heap.size w w' := by
  obtain ⟨p1, p2⟩ := h.prod
  have H := Lib.hid h
  obtain ⟨h1, h2, h3, h4, h5, h6, h7, h8, h9, h10⟩ := h
  have h8b : l ≤ 1125899906842624 := by omega
  obtain ⟨m1, m2⟩ := mul_bd k d 1073741824 1048576 (by omega) (by omega) (by omega) h6
  obtain ⟨M, hM⟩ : ∃ M, k * d = M := ⟨_, rfl⟩
  rw [hM] at m1 m2
  try rw [hM]
  rw [hM] at hl
  have hn2 : (n == 0) = true := by simpa using hn
  clear hn
  clear h8 p1 p2
  go_enter Try.func17, Try.ntmps17
  go_wp2_with fail
  refine (validref_yes _ _ _ _ _ _ H.out).mono ?_
  rintro e w1 ⟨rfl, hb1⟩
  have B1 : Below w.heap.size w w1 := bt (by (repeat' (first | (with_reducible exact Below.refl _ _) | (with_reducible assumption) | (with_reducible refine Below.alloc ?_ ?_ _) | (with_reducible refine Below.drew ?_) | (with_reducible refine below_dn ?_) | (with_reducible refine Below.setCell ?_ ?_ _) | (with_reducible exact Nat.le_refl _) | omega | (simp only [World.size_alloc, World.size_setCell, World.size_drew]; omega) | (simp; omega) | (simp; done)))) hb1
  have s1 : w.heap.size ≤ w1.heap.size := B1.size
  have z1_b : w.heap.size < w1.heap.size := by (have := hb1.size; (try simp at this); omega)
  have x1_b : w.heap.size ≤ w1.heap.size := Nat.le_of_lt z1_b
  have d1_b_0 : w1.cell? ⟨w.heap.size, 0, none⟩ = some (.int .i64 c) := keep (by go_cell) hb1
  have d1_b_1 : w1.cell? ⟨w.heap.size, 1, none⟩ = some (.int .i64 n) := keep (by go_cell) hb1
  have d1_b_2 : w1.cell? ⟨w.heap.size, 2, none⟩ = some (.int .i64 d) := keep (by go_cell) hb1
  have d1_b_3 : w1.cell? ⟨w.heap.size, 3, none⟩ = some (.int .i64 l) := keep (by go_cell) hb1
  have d1_b_4 : w1.cell? ⟨w.heap.size, 4, none⟩ = some (.int .i64 a) := keep (by go_cell) hb1
  have z1_r : w.heap.size + 1 < w1.heap.size := by (have := hb1.size; (try simp at this); omega)
  have x1_r : w.heap.size + 1 ≤ w1.heap.size := Nat.le_of_lt z1_r
  have d1_r_0 : w1.cell? ⟨w.heap.size + 1, 0, none⟩ = some (.int .i64 0) := keep (by go_cell) hb1
  have d1_r_1 : w1.cell? ⟨w.heap.size + 1, 1, none⟩ = some (.int .i64 0) := keep (by go_cell) hb1
  have f1_r : ∀ o, w1.frozen? ⟨w.heap.size + 1, o, none⟩ = false := fun o => (hb1.frozen (p := ⟨w.heap.size + 1, o, none⟩) (by (try simp); (try omega))).trans (by simp [go_sem, *])
  clear hb1
  go_wp2
  refine bodyPost_ret (v := num (0) 4) (by simp [results, Try.results17, go_sem, d1_b_0, d1_b_1, d1_b_2, d1_b_3, d1_b_4, d1_r_0, d1_r_1, f1_r, z1_b, z1_r]; try rfl) rfl ⟨rfl, by first | ((repeat' (first | (with_reducible exact Below.refl _ _) | (with_reducible assumption) | (with_reducible refine Below.alloc ?_ ?_ _) | (with_reducible refine Below.drew ?_) | (with_reducible refine below_dn ?_) | (with_reducible refine Below.setCell ?_ ?_ _) | (with_reducible exact Nat.le_refl _) | omega | (simp only [World.size_alloc, World.size_setCell, World.size_drew]; omega) | (simp; omega) | (simp; done))); done) | (refine below_dn ?_; (repeat' (first | (with_reducible exact Below.refl _ _) | (with_reducible assumption) | (with_reducible refine Below.alloc ?_ ?_ _) | (with_reducible refine Below.drew ?_) | (with_reducible refine below_dn ?_) | (with_reducible refine Below.setCell ?_ ?_ _) | (with_reducible exact Nat.le_refl _) | omega | (simp only [World.size_alloc, World.size_setCell, World.size_drew]; omega) | (simp; omega) | (simp; done))); done) | ((repeat' (first | (with_reducible exact Below.refl _ _) | (with_reducible assumption) | (with_reducible refine Below.alloc ?_ ?_ _) | (with_reducible refine Below.drew ?_) | (with_reducible refine below_dn ?_) | (with_reducible refine Below.setCell ?_ ?_ _) | (with_reducible exact Nat.le_refl _) | omega | (simp only [World.size_alloc, World.size_setCell, World.size_drew]; omega) | (simp; omega) | (simp; done))); refine below_dn ?_; (repeat' (first | (with_reducible exact Below.refl _ _) | (with_reducible assumption) | (with_reducible refine Below.alloc ?_ ?_ _) | (with_reducible refine Below.drew ?_) | (with_reducible refine below_dn ?_) | (with_reducible refine Below.setCell ?_ ?_ _) | (with_reducible exact Nat.le_refl _) | omega | (simp only [World.size_alloc, World.size_setCell, World.size_drew]; omega) | (simp; omega) | (simp; done))); done)⟩
set_option maxHeartbeats 1500000 in
theorem waitref_late (c n d l a k : Int) (w : World) (h : OkB c n d l a) (hk1 : 1 ≤ k) (hk2 : k ≤ 1073741824) (hc : k ≤ c) (hl : l < k * d) (hn : 1 ≤ n) (ht : 1099511627776 < a + (k * d - l + n - 1) / n) :
    Calls Try.prog 17 #[bk c n d l a, .int .i64 k] w fun e w' => e = .returned (num (0) 4) ∧ Below w.heap.size w w' := by
  obtain ⟨p1, p2⟩ := h.prod
  have H := Lib.hid h
  obtain ⟨h1, h2, h3, h4, h5, h6, h7, h8, h9, h10⟩ := h
  have h8b : l ≤ 1125899906842624 := by omega
  obtain ⟨m1, m2⟩ := mul_bd k d 1073741824 1048576 (by omega) (by omega) (by omega) h6
  obtain ⟨M, hM⟩ : ∃ M, k * d = M := ⟨_, rfl⟩
  rw [hM] at m1 m2
  try rw [hM]
  rw [hM] at hl ht
  obtain ⟨g1, g2⟩ := quo_le (x := M - l + n - 1) (f := n) (by omega) hn
  clear h8 p1 p2
  go_enter Try.func17, Try.ntmps17
  go_wp2_with fail
  refine (validref_yes _ _ _ _ _ _ H.out).mono ?_
  rintro e w1 ⟨rfl, hb1⟩
  have B1 : Below w.heap.size w w1 := bt (by (repeat' (first | (with_reducible exact Below.refl _ _) | (with_reducible assumption) | (with_reducible refine Below.alloc ?_ ?_ _) | (with_reducible refine Below.drew ?_) | (with_reducible refine below_dn ?_) | (with_reducible refine Below.setCell ?_ ?_ _) | (with_reducible exact Nat.le_refl _) | omega | (simp only [World.size_alloc, World.size_setCell, World.size_drew]; omega) | (simp; omega) | (simp; done)))) hb1
  have s1 : w.heap.size ≤ w1.heap.size := B1.size
  have z1_b : w.heap.size < w1.heap.size := by (have := hb1.size; (try simp at this); omega)
  have x1_b : w.heap.size ≤ w1.heap.size := Nat.le_of_lt z1_b
  have d1_b_0 : w1.cell? ⟨w.heap.size, 0, none⟩ = some (.int .i64 c) := keep (by go_cell) hb1
  have d1_b_1 : w1.cell? ⟨w.heap.size, 1, none⟩ = some (.int .i64 n) := keep (by go_cell) hb1
  have d1_b_2 : w1.cell? ⟨w.heap.size, 2, none⟩ = some (.int .i64 d) := keep (by go_cell) hb1
  have d1_b_3 : w1.cell? ⟨w.heap.size, 3, none⟩ = some (.int .i64 l) := keep (by go_cell) hb1
  have d1_b_4 : w1.cell? ⟨w.heap.size, 4, none⟩ = some (.int .i64 a) := keep (by go_cell) hb1
  have z1_r : w.heap.size + 1 < w1.heap.size := by (have := hb1.size; (try simp at this); omega)
  have x1_r : w.heap.size + 1 ≤ w1.heap.size := Nat.le_of_lt z1_r
  have d1_r_0 : w1.cell? ⟨w.heap.size + 1, 0, none⟩ = some (.int .i64 0) := keep (by go_cell) hb1
  have d1_r_1 : w1.cell? ⟨w.heap.size + 1, 1, none⟩ = some (.int .i64 0) := keep (by go_cell) hb1
  have f1_r : ∀ o, w1.frozen? ⟨w.heap.size + 1, o, none⟩ = false := fun o => (hb1.frozen (p := ⟨w.heap.size + 1, o, none⟩) (by (try simp); (try omega))).trans (by simp [go_sem, *])
  clear hb1
  go_wp2
  go_quiet (fail)
  go_wp2
  refine bodyPost_ret (v := num (0) 4) (by simp [results, Try.results17, go_sem, d1_b_0, d1_b_1, d1_b_2, d1_b_3, d1_b_4, d1_r_0, d1_r_1, f1_r, z1_b, z1_r]; try rfl) rfl ⟨rfl, by first | ((repeat' (first | (with_reducible exact Below.refl _ _) | (with_reducible assumption) | (with_reducible refine Below.alloc ?_ ?_ _) | (with_reducible refine Below.drew ?_) | (with_reducible refine below_dn ?_) | (with_reducible refine Below.setCell ?_ ?_ _) | (with_reducible exact Nat.le_refl _) | omega | (simp only [World.size_alloc, World.size_setCell, World.size_drew]; omega) | (simp; omega) | (simp; done))); done) | (refine below_dn ?_; (repeat' (first | (with_reducible exact Below.refl _ _) | (with_reducible assumption) | (with_reducible refine Below.alloc ?_ ?_ _) | (with_reducible refine Below.drew ?_) | (with_reducible refine below_dn ?_) | (with_reducible refine Below.setCell ?_ ?_ _) | (with_reducible exact Nat.le_refl _) | omega | (simp only [World.size_alloc, World.size_setCell, World.size_drew]; omega) | (simp; omega) | (simp; done))); done) | ((repeat' (first | (with_reducible exact Below.refl _ _) | (with_reducible assumption) | (with_reducible refine Below.alloc ?_ ?_ _) | (with_reducible refine Below.drew ?_) | (with_reducible refine below_dn ?_) | (with_reducible refine Below.setCell ?_ ?_ _) | (with_reducible exact Nat.le_refl _) | omega | (simp only [World.size_alloc, World.size_setCell, World.size_drew]; omega) | (simp; omega) | (simp; done))); refine below_dn ?_; (repeat' (first | (with_reducible exact Below.refl _ _) | (with_reducible assumption) | (with_reducible refine Below.alloc ?_ ?_ _) | (with_reducible refine Below.drew ?_) | (with_reducible refine below_dn ?_) | (with_reducible refine Below.setCell ?_ ?_ _) | (with_reducible exact Nat.le_refl _) | omega | (simp only [World.size_alloc, World.size_setCell, World.size_drew]; omega) | (simp; omega) | (simp; done))); done)⟩
set_option maxHeartbeats 1500000 in
theorem waitref_at (c n d l a k : Int) (w : World) (h : OkB c n d l a) (hk1 : 1 ≤ k) (hk2 : k ≤ 1073741824) (hc : k ≤ c) (hl : l < k * d) (hn : 1 ≤ n) (ht : a + (k * d - l + n - 1) / n ≤ 1099511627776) :
    Calls Try.prog 17 #[bk c n d l a, .int .i64 k] w fun e w' => e = .returned (num (a + (k * d - l + n - 1) / n) 0) ∧ Below w.heap.size w w' := by
  obtain ⟨p1, p2⟩ := h.prod
  have H := Lib.hid h
  obtain ⟨h1, h2, h3, h4, h5, h6, h7, h8, h9, h10⟩ := h
  have h8b : l ≤ 1125899906842624 := by omega
  obtain ⟨m1, m2⟩ := mul_bd k d 1073741824 1048576 (by omega) (by omega) (by omega) h6
  obtain ⟨M, hM⟩ : ∃ M, k * d = M := ⟨_, rfl⟩
  rw [hM] at m1 m2
  try rw [hM]
  rw [hM] at hl ht
  obtain ⟨g1, g2⟩ := quo_le (x := M - l + n - 1) (f := n) (by omega) hn
  clear h8 p1 p2
  go_enter Try.func17, Try.ntmps17
  go_wp2_with fail
  refine (validref_yes _ _ _ _ _ _ H.out).mono ?_
  rintro e w1 ⟨rfl, hb1⟩
  have B1 : Below w.heap.size w w1 := bt (by (repeat' (first | (with_reducible exact Below.refl _ _) | (with_reducible assumption) | (with_reducible refine Below.alloc ?_ ?_ _) | (with_reducible refine Below.drew ?_) | (with_reducible refine below_dn ?_) | (with_reducible refine Below.setCell ?_ ?_ _) | (with_reducible exact Nat.le_refl _) | omega | (simp only [World.size_alloc, World.size_setCell, World.size_drew]; omega) | (simp; omega) | (simp; done)))) hb1
  have s1 : w.heap.size ≤ w1.heap.size := B1.size
  have z1_b : w.heap.size < w1.heap.size := by (have := hb1.size; (try simp at this); omega)
  have x1_b : w.heap.size ≤ w1.heap.size := Nat.le_of_lt z1_b
  have d1_b_0 : w1.cell? ⟨w.heap.size, 0, none⟩ = some (.int .i64 c) := keep (by go_cell) hb1
  have d1_b_1 : w1.cell? ⟨w.heap.size, 1, none⟩ = some (.int .i64 n) := keep (by go_cell) hb1
  have d1_b_2 : w1.cell? ⟨w.heap.size, 2, none⟩ = some (.int .i64 d) := keep (by go_cell) hb1
  have d1_b_3 : w1.cell? ⟨w.heap.size, 3, none⟩ = some (.int .i64 l) := keep (by go_cell) hb1
  have d1_b_4 : w1.cell? ⟨w.heap.size, 4, none⟩ = some (.int .i64 a) := keep (by go_cell) hb1
  have z1_r : w.heap.size + 1 < w1.heap.size := by (have := hb1.size; (try simp at this); omega)
  have x1_r : w.heap.size + 1 ≤ w1.heap.size := Nat.le_of_lt z1_r
  have d1_r_0 : w1.cell? ⟨w.heap.size + 1, 0, none⟩ = some (.int .i64 0) := keep (by go_cell) hb1
  have d1_r_1 : w1.cell? ⟨w.heap.size + 1, 1, none⟩ = some (.int .i64 0) := keep (by go_cell) hb1
  have f1_r : ∀ o, w1.frozen? ⟨w.heap.size + 1, o, none⟩ = false := fun o => (hb1.frozen (p := ⟨w.heap.size + 1, o, none⟩) (by (try simp); (try omega))).trans (by simp [go_sem, *])
  clear hb1
  go_wp2
  go_quiet (fail)
  go_wp2
  refine bodyPost_ret (v := num (a + (M - l + n - 1) / n) 0) (by simp [results, Try.results17, go_sem, d1_b_0, d1_b_1, d1_b_2, d1_b_3, d1_b_4, d1_r_0, d1_r_1, f1_r, z1_b, z1_r]; try rfl) rfl ⟨rfl, by first | ((repeat' (first | (with_reducible exact Below.refl _ _) | (with_reducible assumption) | (with_reducible refine Below.alloc ?_ ?_ _) | (with_reducible refine Below.drew ?_) | (with_reducible refine below_dn ?_) | (with_reducible refine Below.setCell ?_ ?_ _) | (with_reducible exact Nat.le_refl _) | omega | (simp only [World.size_alloc, World.size_setCell, World.size_drew]; omega) | (simp; omega) | (simp; done))); done) | (refine below_dn ?_; (repeat' (first | (with_reducible exact Below.refl _ _) | (with_reducible assumption) | (with_reducible refine Below.alloc ?_ ?_ _) | (with_reducible refine Below.drew ?_) | (with_reducible refine below_dn ?_) | (with_reducible refine Below.setCell ?_ ?_ _) | (with_reducible exact Nat.le_refl _) | omega | (simp only [World.size_alloc, World.size_setCell, World.size_drew]; omega) | (simp; omega) | (simp; done))); done) | ((repeat' (first | (with_reducible exact Below.refl _ _) | (with_reducible assumption) | (with_reducible refine Below.alloc ?_ ?_ _) | (with_reducible refine Below.drew ?_) | (with_reducible refine below_dn ?_) | (with_reducible refine Below.setCell ?_ ?_ _) | (with_reducible exact Nat.le_refl _) | omega | (simp only [World.size_alloc, World.size_setCell, World.size_drew]; omega) | (simp; omega) | (simp; done))); refine below_dn ?_; (repeat' (first | (with_reducible exact Below.refl _ _) | (with_reducible assumption) | (with_reducible refine Below.alloc ?_ ?_ _) | (with_reducible refine Below.drew ?_) | (with_reducible refine below_dn ?_) | (with_reducible refine Below.setCell ?_ ?_ _) | (with_reducible exact Nat.le_refl _) | omega | (simp only [World.size_alloc, World.size_setCell, World.size_drew]; omega) | (simp; omega) | (simp; done))); done)⟩
end Go.Proofs.Ytigalbgailnicaa
