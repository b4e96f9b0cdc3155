import Derived.Test.YtigalbgailnicaaB
import Derived.OpenShut
import Derived.Deep.Cut
namespace Go.Proofs.Ytigalbgailnicaa
set_option linter.unusedVariables false
set_option linter.unusedSimpArgs false
open Go.RowKit
theorem keep {W W' : World} {b o : Nat} {v : Value} (h : W.cell? ⟨b, o, none⟩ = some v) (hb : Below W.heap.size W W') : W'.cell? ⟨b, o, none⟩ = some v := by
  rw [hb.cell (p := ⟨b, o, none⟩) (block_lt_of_cell h)]; exact h
set_option maxHeartbeats 2000000 in
theorem take_ok (c n d l a t k : Int) (w : World) (h : OkB c n d l a) (hk1 : 1 ≤ k) (hk2 : k ≤ 1073741824) (ht : a ≤ t) (ht2 : t ≤ 1099511627776) (hl : k * d ≤ lvl c n d l a t) :
    Calls Try.prog 11 #[bk c n d l a, .int .i64 t, .int .i64 k] w fun e w' => e = .returned (.tuple #[bk c n d (lvl c n d l a t - k * d) t, .int .i64 0]) ∧ Below w.heap.size w w' := by
  have H := Lib.hid h
  obtain ⟨p1, p2⟩ := h.prod
  obtain ⟨h1, h2, h3, h4, h5, h6, h7, h8, h9, h10⟩ := h
  obtain ⟨m1, m2⟩ := mul_bd k d 1073741824 1048576 (by omega) hk2 (by omega) h6
  obtain ⟨q1, q2, q3, q4, q5, q6, q7, q8, q9, q10⟩ := lvl_ok H.out t ht ht2
  clear q1 q2 q3 q4 q5 q6 q9 q10
  obtain ⟨L, hL⟩ : ∃ L, lvl c n d l a t = L := ⟨_, rfl⟩
  have c1 := fun W : World => refill_ok c n d l a t W H.out ht ht2
  rw [hL] at c1 hl q7 q8 ⊢
  have C1 := Lib.hid c1
  obtain ⟨M, hM⟩ : ∃ M, k * d = M := ⟨_, rfl⟩
  rw [hM] at hl m1 m2 ⊢
  have q9 : L ≤ 1125899906842624 := by omega
  clear c1 hL p1 p2 q8
  go_enter Try.func11, Try.ntmps11
  go_wp2_with fail
  refine (valid_yes _ _ _ _ _ _ H.out).mono ?_
  rintro e w1 ⟨rfl, hb1⟩
  have B1 : Below w.heap.size w w1 := bt (by (repeat' (first | (with_reducible exact Below.refl _ _) | (with_reducible assumption) | (with_reducible refine Below.alloc ?_ ?_ _) | (with_reducible refine Below.drew ?_) | (with_reducible refine below_dn ?_) | (with_reducible refine Below.setCell ?_ ?_ _) | (with_reducible exact Nat.le_refl _) | omega | (simp only [World.size_alloc, World.size_setCell, World.size_drew]; omega) | (simp; omega) | (simp; done)))) hb1
  have s1 : w.heap.size ≤ w1.heap.size := B1.size
  have z1_b : w.heap.size < w1.heap.size := by (have := hb1.size; (try simp at this); omega)
  have x1_b : w.heap.size ≤ w1.heap.size := Nat.le_of_lt z1_b
  have d1_b_0 : w1.cell? ⟨w.heap.size, 0, none⟩ = some (.int .i64 c) := keep (by go_cell) hb1
  have d1_b_1 : w1.cell? ⟨w.heap.size, 1, none⟩ = some (.int .i64 n) := keep (by go_cell) hb1
  have d1_b_2 : w1.cell? ⟨w.heap.size, 2, none⟩ = some (.int .i64 d) := keep (by go_cell) hb1
  have d1_b_3 : w1.cell? ⟨w.heap.size, 3, none⟩ = some (.int .i64 l) := keep (by go_cell) hb1
  have d1_b_4 : w1.cell? ⟨w.heap.size, 4, none⟩ = some (.int .i64 a) := keep (by go_cell) hb1
  have f1_b : ∀ o, w1.frozen? ⟨w.heap.size, o, none⟩ = false := fun o => (hb1.frozen (p := ⟨w.heap.size, o, none⟩) (by (try simp); (try omega))).trans (by simp [go_sem, *])
  have z1_r : w.heap.size + 1 < w1.heap.size := by (have := hb1.size; (try simp at this); omega)
  have x1_r : w.heap.size + 1 ≤ w1.heap.size := Nat.le_of_lt z1_r
  have d1_r_0 : w1.cell? ⟨w.heap.size + 1, 0, none⟩ = some (.int .i64 0) := keep (by go_cell) hb1
  have d1_r_1 : w1.cell? ⟨w.heap.size + 1, 1, none⟩ = some (.int .i64 0) := keep (by go_cell) hb1
  have d1_r_2 : w1.cell? ⟨w.heap.size + 1, 2, none⟩ = some (.int .i64 0) := keep (by go_cell) hb1
  have d1_r_3 : w1.cell? ⟨w.heap.size + 1, 3, none⟩ = some (.int .i64 0) := keep (by go_cell) hb1
  have d1_r_4 : w1.cell? ⟨w.heap.size + 1, 4, none⟩ = some (.int .i64 0) := keep (by go_cell) hb1
  have f1_r : ∀ o, w1.frozen? ⟨w.heap.size + 1, o, none⟩ = false := fun o => (hb1.frozen (p := ⟨w.heap.size + 1, o, none⟩) (by (try simp); (try omega))).trans (by simp [go_sem, *])
  clear hb1
  go_wp2_with fail
  refine (within_yes _ _ _ _ (by omega) (by omega)).mono ?_
  rintro e w1b ⟨rfl, rfl⟩
  go_wp2_with fail
  refine (C1.out _).mono ?_
  rintro e w2 ⟨rfl, hb2⟩
  have B2 : Below w.heap.size w w2 := bt (by (repeat' (first | (with_reducible exact Below.refl _ _) | (with_reducible assumption) | (with_reducible refine Below.alloc ?_ ?_ _) | (with_reducible refine Below.drew ?_) | (with_reducible refine below_dn ?_) | (with_reducible refine Below.setCell ?_ ?_ _) | (with_reducible exact Nat.le_refl _) | omega | (simp only [World.size_alloc, World.size_setCell, World.size_drew]; omega) | (simp; omega) | (simp; done)))) hb2
  have s2 : w.heap.size ≤ w2.heap.size := B2.size
  have z2_b : w.heap.size < w2.heap.size := by (have := hb2.size; (try simp at this); omega)
  have x2_b : w.heap.size ≤ w2.heap.size := Nat.le_of_lt z2_b
  have d2_b_0 : w2.cell? ⟨w.heap.size, 0, none⟩ = some (.int .i64 c) := keep (by go_cell) hb2
  have d2_b_1 : w2.cell? ⟨w.heap.size, 1, none⟩ = some (.int .i64 n) := keep (by go_cell) hb2
  have d2_b_2 : w2.cell? ⟨w.heap.size, 2, none⟩ = some (.int .i64 d) := keep (by go_cell) hb2
  have d2_b_3 : w2.cell? ⟨w.heap.size, 3, none⟩ = some (.int .i64 l) := keep (by go_cell) hb2
  have d2_b_4 : w2.cell? ⟨w.heap.size, 4, none⟩ = some (.int .i64 a) := keep (by go_cell) hb2
  have f2_b : ∀ o, w2.frozen? ⟨w.heap.size, o, none⟩ = false := fun o => (hb2.frozen (p := ⟨w.heap.size, o, none⟩) (by (try simp); (try omega))).trans (by simp [go_sem, *])
  have z2_r : w.heap.size + 1 < w2.heap.size := by (have := hb2.size; (try simp at this); omega)
  have x2_r : w.heap.size + 1 ≤ w2.heap.size := Nat.le_of_lt z2_r
  have d2_r_0 : w2.cell? ⟨w.heap.size + 1, 0, none⟩ = some (.int .i64 0) := keep (by go_cell) hb2
  have d2_r_1 : w2.cell? ⟨w.heap.size + 1, 1, none⟩ = some (.int .i64 0) := keep (by go_cell) hb2
  have d2_r_2 : w2.cell? ⟨w.heap.size + 1, 2, none⟩ = some (.int .i64 0) := keep (by go_cell) hb2
  have d2_r_3 : w2.cell? ⟨w.heap.size + 1, 3, none⟩ = some (.int .i64 0) := keep (by go_cell) hb2
  have d2_r_4 : w2.cell? ⟨w.heap.size + 1, 4, none⟩ = some (.int .i64 0) := keep (by go_cell) hb2
  have f2_r : ∀ o, w2.frozen? ⟨w.heap.size + 1, o, none⟩ = false := fun o => (hb2.frozen (p := ⟨w.heap.size + 1, o, none⟩) (by (try simp); (try omega))).trans (by simp [go_sem, *])
  clear hb2 d1_b_0 d1_b_1 d1_b_2 d1_b_3 d1_b_4 f1_b d1_r_0 d1_r_1 d1_r_2 d1_r_3 d1_r_4 f1_r
  go_upto_region 6 with (fail)
  obtain ⟨w3, hw3⟩ : ∃ W, (((((w2.setCell ⟨w.heap.size, 0, none⟩ (.int .i64 c)).setCell ⟨w.heap.size, 1, none⟩ (.int .i64 n)).setCell ⟨w.heap.size, 2, none⟩ (.int .i64 d)).setCell ⟨w.heap.size, 3, none⟩ (.int .i64 L)).setCell ⟨w.heap.size, 4, none⟩ (.int .i64 t)) = W := ⟨_, rfl⟩
  rw [hw3]
  have B3 : Below w.heap.size w w3 := by rw [← hw3]; (repeat' (first | (with_reducible exact Below.refl _ _) | (with_reducible assumption) | (with_reducible refine Below.alloc ?_ ?_ _) | (with_reducible refine Below.drew ?_) | (with_reducible refine below_dn ?_) | (with_reducible refine Below.setCell ?_ ?_ _) | (with_reducible exact Nat.le_refl _) | omega | (simp only [World.size_alloc, World.size_setCell, World.size_drew]; omega) | (simp; omega) | (simp; done)))
  have s3 : w.heap.size ≤ w3.heap.size := B3.size
  have z3_b : w.heap.size < w3.heap.size := by rw [← hw3]; simp; omega
  have x3_b : w.heap.size ≤ w3.heap.size := Nat.le_of_lt z3_b
  have d3_b_0 : w3.cell? ⟨w.heap.size, 0, none⟩ = some (.int .i64 c) := by rw [← hw3]; go_cell
  have d3_b_1 : w3.cell? ⟨w.heap.size, 1, none⟩ = some (.int .i64 n) := by rw [← hw3]; go_cell
  have d3_b_2 : w3.cell? ⟨w.heap.size, 2, none⟩ = some (.int .i64 d) := by rw [← hw3]; go_cell
  have d3_b_3 : w3.cell? ⟨w.heap.size, 3, none⟩ = some (.int .i64 L) := by rw [← hw3]; go_cell
  have d3_b_4 : w3.cell? ⟨w.heap.size, 4, none⟩ = some (.int .i64 t) := by rw [← hw3]; go_cell
  have f3_b : ∀ o, w3.frozen? ⟨w.heap.size, o, none⟩ = false := fun o => by rw [← hw3]; (repeat rw [World.frozen?_setCell]); exact f2_b o
  have z3_r : w.heap.size + 1 < w3.heap.size := by rw [← hw3]; simp; omega
  have x3_r : w.heap.size + 1 ≤ w3.heap.size := Nat.le_of_lt z3_r
  have d3_r_0 : w3.cell? ⟨w.heap.size + 1, 0, none⟩ = some (.int .i64 0) := by rw [← hw3]; go_cell
  have d3_r_1 : w3.cell? ⟨w.heap.size + 1, 1, none⟩ = some (.int .i64 0) := by rw [← hw3]; go_cell
  have d3_r_2 : w3.cell? ⟨w.heap.size + 1, 2, none⟩ = some (.int .i64 0) := by rw [← hw3]; go_cell
  have d3_r_3 : w3.cell? ⟨w.heap.size + 1, 3, none⟩ = some (.int .i64 0) := by rw [← hw3]; go_cell
  have d3_r_4 : w3.cell? ⟨w.heap.size + 1, 4, none⟩ = some (.int .i64 0) := by rw [← hw3]; go_cell
  have f3_r : ∀ o, w3.frozen? ⟨w.heap.size + 1, o, none⟩ = false := fun o => by rw [← hw3]; (repeat rw [World.frozen?_setCell]); exact f2_r o
  clear hw3 d2_b_0 d2_b_1 d2_b_2 d2_b_3 d2_b_4 f2_b d2_r_0 d2_r_1 d2_r_2 d2_r_3 d2_r_4 f2_r
  go_upto_region 9 with (fail)
  obtain ⟨w4, hw4⟩ : ∃ W, (w3.setCell ⟨w.heap.size, 3, none⟩ (.int .i64 (L - M))) = W := ⟨_, rfl⟩
  rw [hw4]
  have B4 : Below w.heap.size w w4 := by rw [← hw4]; (repeat' (first | (with_reducible exact Below.refl _ _) | (with_reducible assumption) | (with_reducible refine Below.alloc ?_ ?_ _) | (with_reducible refine Below.drew ?_) | (with_reducible refine below_dn ?_) | (with_reducible refine Below.setCell ?_ ?_ _) | (with_reducible exact Nat.le_refl _) | omega | (simp only [World.size_alloc, World.size_setCell, World.size_drew]; omega) | (simp; omega) | (simp; done)))
  have s4 : w.heap.size ≤ w4.heap.size := B4.size
  have z4_b : w.heap.size < w4.heap.size := by rw [← hw4]; simp; omega
  have x4_b : w.heap.size ≤ w4.heap.size := Nat.le_of_lt z4_b
  have d4_b_0 : w4.cell? ⟨w.heap.size, 0, none⟩ = some (.int .i64 c) := by rw [← hw4]; go_cell
  have d4_b_1 : w4.cell? ⟨w.heap.size, 1, none⟩ = some (.int .i64 n) := by rw [← hw4]; go_cell
  have d4_b_2 : w4.cell? ⟨w.heap.size, 2, none⟩ = some (.int .i64 d) := by rw [← hw4]; go_cell
  have d4_b_3 : w4.cell? ⟨w.heap.size, 3, none⟩ = some (.int .i64 (L - M)) := by rw [← hw4]; go_cell
  have d4_b_4 : w4.cell? ⟨w.heap.size, 4, none⟩ = some (.int .i64 t) := by rw [← hw4]; go_cell
  have f4_b : ∀ o, w4.frozen? ⟨w.heap.size, o, none⟩ = false := fun o => by rw [← hw4]; (repeat rw [World.frozen?_setCell]); exact f3_b o
  have z4_r : w.heap.size + 1 < w4.heap.size := by rw [← hw4]; simp; omega
  have x4_r : w.heap.size + 1 ≤ w4.heap.size := Nat.le_of_lt z4_r
  have d4_r_0 : w4.cell? ⟨w.heap.size + 1, 0, none⟩ = some (.int .i64 0) := by rw [← hw4]; go_cell
  have d4_r_1 : w4.cell? ⟨w.heap.size + 1, 1, none⟩ = some (.int .i64 0) := by rw [← hw4]; go_cell
  have d4_r_2 : w4.cell? ⟨w.heap.size + 1, 2, none⟩ = some (.int .i64 0) := by rw [← hw4]; go_cell
  have d4_r_3 : w4.cell? ⟨w.heap.size + 1, 3, none⟩ = some (.int .i64 0) := by rw [← hw4]; go_cell
  have d4_r_4 : w4.cell? ⟨w.heap.size + 1, 4, none⟩ = some (.int .i64 0) := by rw [← hw4]; go_cell
  have f4_r : ∀ o, w4.frozen? ⟨w.heap.size + 1, o, none⟩ = false := fun o => by rw [← hw4]; (repeat rw [World.frozen?_setCell]); exact f3_r o
  clear hw4 d3_b_0 d3_b_1 d3_b_2 d3_b_3 d3_b_4 f3_b d3_r_0 d3_r_1 d3_r_2 d3_r_3 d3_r_4 f3_r
  go_wp2
  refine bodyPost_ret (v := .tuple #[bk c n d (L - M) t, .int .i64 0]) (by simp [results, Try.results11, go_sem, d4_b_0, d4_b_1, d4_b_2, d4_b_3, d4_b_4, f4_b, d4_r_0, d4_r_1, d4_r_2, d4_r_3, d4_r_4, f4_r, z4_b, z4_r]; try rfl) rfl ⟨rfl, by (repeat' (first | (with_reducible exact Below.refl _ _) | (with_reducible assumption) | (with_reducible refine Below.alloc ?_ ?_ _) | (with_reducible refine Below.drew ?_) | (with_reducible refine below_dn ?_) | (with_reducible refine Below.setCell ?_ ?_ _) | (with_reducible exact Nat.le_refl _) | omega | (simp only [World.size_alloc, World.size_setCell, World.size_drew]; omega) | (simp; omega) | (simp; done)))⟩
end Go.Proofs.Ytigalbgailnicaa
