import Derived.Test.YtnojnfmhinjcpaaN
namespace Go.Proofs.Ytnojnfmhinjcpaa
set_option linter.unusedVariables false
set_option linter.unusedSimpArgs false
open Go.RowKit Go.Sort
theorem least_great {d n : Int} (h6 : 0 ≤ d) (h7 : d ≤ 100000) (hn : 0 ≤ n) : least n d ≤ (n + 1) * 1000000 / (1000000 - d) := by
  have g : n + 1 ≤ (n + 1) * 1000000 / (1000000 - d) := (Int.le_ediv_iff_mul_le (by omega)).2 (Int.mul_le_mul_of_nonneg_left (by omega) (by omega))
  unfold least
  split
  · have : ((n - 1) * 1000000 + (1000000 + d) - 1) / (1000000 + d) < n + 1 := Int.ediv_lt_of_lt_mul (by omega) (by
      have : (n + 1) * 1000000 ≤ (n + 1) * (1000000 + d) := Int.mul_le_mul_of_nonneg_left (by omega) (by omega)
      have : 0 ≤ n * d := Int.mul_nonneg hn h6
      have : (n + 1) * (1000000 + d) = (n + 1) * 1000000 + n * d + d := by rw [Int.mul_add, Int.add_mul n 1 d]; omega
      omega)
    omega
  · omega
theorem lo_hi {lo hi d n : Int} (h4 : lo ≤ hi) (h5 : hi ≤ 1099511627776) (h6 : 0 ≤ d) (h7 : d ≤ 100000) (hn : 0 ≤ n) : rdLo lo d n ≤ rdHi hi d n := by
  unfold rdLo rdHi
  have := least_great h6 h7 hn
  omega
theorem rd_bds {lo hi d n : Int} (h3 : 0 ≤ lo) (h4 : lo ≤ hi) (h5 : hi ≤ 1099511627776) (h6 : 0 ≤ d) (h7 : d ≤ 100000) (hn : 0 ≤ n) : 0 ≤ rdLo lo d n ∧ rdLo lo d n ≤ 1099511627776 ∧ rdHi hi d n ≤ 1099511627776 ∧ 0 ≤ rdHi hi d n := by
  have a := lo_hi h4 h5 h6 h7 hn
  have b := least_nonneg d n h6
  unfold rdLo rdHi at *
  omega
theorem rd_same {lo hi d : Int} (h6 : 0 ≤ d) (h7 : d ≤ 100000) (n : Int) (hn : n = 0) (h1 : 0 ≤ lo ∧ lo ≤ 1099511627776) (h2 : 0 ≤ hi ∧ hi ≤ 1099511627776) : rdLo lo d n = lo ∧ hi ≤ rdHi hi d n ∧ rdHi hi d n ≤ hi + 1 := by
  subst hn
  have e : (0 + 1) * 1000000 / (1000000 - d) = 1 := by
    have g1 : 1 ≤ (0 + 1) * 1000000 / (1000000 - d) := (Int.le_ediv_iff_mul_le (by omega)).2 (by omega)
    have g2 : (0 + 1) * 1000000 / (1000000 - d) < 2 := Int.ediv_lt_of_lt_mul (by omega) (by omega)
    omega
  unfold rdLo rdHi least
  rw [e]
  simp only [Int.lt_irrefl, if_false]
  omega
set_option maxHeartbeats 1000000 in
theorem onlyGoesOn_bad (l lo hi d x y a b : Int) (w : World) (hs : ∀ W, Sane W) (h : chkB l lo hi d = false) :
    Calls Try.prog 8 #[clk l lo hi d, .int .i64 x, .int .i64 y, per a b] w fun e w' => e = .returned (.bool true) ∧ Below w.heap.size w w' := by
  have HS := Lib.hid hs; clear hs
  have H := Lib.hid h; clear h
  go_enter Try.func8, Try.ntmps8
  go_wp2_with fail
  refine (checkref_no _ _ _ _ _ H.out).mono ?_
  rintro e w1 ⟨rfl, hb1⟩
  have B1 : Below w.heap.size w w1 := bt (by (repeat' (first | (with_reducible exact Below.refl _ _) | (with_reducible assumption) | (with_reducible refine Below.alloc ?_ ?_ _) | (with_reducible refine Below.drew ?_) | (with_reducible refine below_dn ?_) | (with_reducible refine Below.setCell ?_ ?_ _) | (with_reducible exact Nat.le_refl _) | omega | (simp only [World.size_alloc, World.size_setCell, World.size_drew]; omega) | (simp; omega) | (simp; done)))) hb1
  have s1 : w.heap.size ≤ w1.heap.size := B1.size
  have z1_c : w.heap.size < w1.heap.size := by (have := hb1.size; (try simp at this); omega)
  have x1_c : w.heap.size ≤ w1.heap.size := Nat.le_of_lt z1_c
  have d1_c_0 : w1.cell? ⟨w.heap.size, 0, none⟩ = some (.int .i64 l) := keep (by go_cell) hb1
  have d1_c_1 : w1.cell? ⟨w.heap.size, 1, none⟩ = some (.int .i64 lo) := keep (by go_cell) hb1
  have d1_c_2 : w1.cell? ⟨w.heap.size, 2, none⟩ = some (.int .i64 hi) := keep (by go_cell) hb1
  have d1_c_3 : w1.cell? ⟨w.heap.size, 3, none⟩ = some (.int .i64 d) := keep (by go_cell) hb1
  have z1_p : w.heap.size + 1 < w1.heap.size := by (have := hb1.size; (try simp at this); omega)
  have x1_p : w.heap.size + 1 ≤ w1.heap.size := Nat.le_of_lt z1_p
  have d1_p_0 : w1.cell? ⟨w.heap.size + 1, 0, none⟩ = some (.int .i64 a) := keep (by go_cell) hb1
  have d1_p_1 : w1.cell? ⟨w.heap.size + 1, 1, none⟩ = some (.int .i64 b) := keep (by go_cell) hb1
  clear hb1
  go_wp2_with fail
  refine (HS.out _).mono ?_
  rintro e w2 ⟨rfl, hb2⟩
  have B2 : Below w.heap.size w w2 := bt (by (repeat' (first | (with_reducible exact Below.refl _ _) | (with_reducible assumption) | (with_reducible refine Below.alloc ?_ ?_ _) | (with_reducible refine Below.drew ?_) | (with_reducible refine below_dn ?_) | (with_reducible refine Below.setCell ?_ ?_ _) | (with_reducible exact Nat.le_refl _) | omega | (simp only [World.size_alloc, World.size_setCell, World.size_drew]; omega) | (simp; omega) | (simp; done)))) hb2
  have s2 : w.heap.size ≤ w2.heap.size := B2.size
  have z2_c : w.heap.size < w2.heap.size := by (have := hb2.size; (try simp at this); omega)
  have x2_c : w.heap.size ≤ w2.heap.size := Nat.le_of_lt z2_c
  have d2_c_0 : w2.cell? ⟨w.heap.size, 0, none⟩ = some (.int .i64 l) := keep (by go_cell) hb2
  have d2_c_1 : w2.cell? ⟨w.heap.size, 1, none⟩ = some (.int .i64 lo) := keep (by go_cell) hb2
  have d2_c_2 : w2.cell? ⟨w.heap.size, 2, none⟩ = some (.int .i64 hi) := keep (by go_cell) hb2
  have d2_c_3 : w2.cell? ⟨w.heap.size, 3, none⟩ = some (.int .i64 d) := keep (by go_cell) hb2
  have z2_p : w.heap.size + 1 < w2.heap.size := by (have := hb2.size; (try simp at this); omega)
  have x2_p : w.heap.size + 1 ≤ w2.heap.size := Nat.le_of_lt z2_p
  have d2_p_0 : w2.cell? ⟨w.heap.size + 1, 0, none⟩ = some (.int .i64 a) := keep (by go_cell) hb2
  have d2_p_1 : w2.cell? ⟨w.heap.size + 1, 1, none⟩ = some (.int .i64 b) := keep (by go_cell) hb2
  clear hb2 d1_c_0 d1_c_1 d1_c_2 d1_c_3 d1_p_0 d1_p_1
  go_wp2
  all_goals
    go_ret
    exact ⟨ret_bool (by first | rfl | (apply decide_eq_true; omega)), by (repeat' (first | (with_reducible exact Below.refl _ _) | (with_reducible assumption) | (with_reducible refine Below.alloc ?_ ?_ _) | (with_reducible refine Below.drew ?_) | (with_reducible refine below_dn ?_) | (with_reducible refine Below.setCell ?_ ?_ _) | (with_reducible exact Nat.le_refl _) | omega | (simp only [World.size_alloc, World.size_setCell, World.size_drew]; omega) | (simp; omega) | (simp; done)))⟩
set_option maxHeartbeats 1000000 in
theorem onlyGoesOn_order (l lo hi d x y a b : Int) (w : World) (hs : ∀ W, Sane W) (h : OkClk l lo hi d) (k : y < x) :
    Calls Try.prog 8 #[clk l lo hi d, .int .i64 x, .int .i64 y, per a b] w fun e w' => e = .returned (.bool true) ∧ Below w.heap.size w w' := by
  have HS := Lib.hid hs; clear hs
  have H := Lib.hid h; clear h
  go_enter Try.func8, Try.ntmps8
  go_wp2_with fail
  refine (checkref_yes _ _ _ _ _ H.out).mono ?_
  rintro e w1 ⟨rfl, hb1⟩
  have B1 : Below w.heap.size w w1 := bt (by (repeat' (first | (with_reducible exact Below.refl _ _) | (with_reducible assumption) | (with_reducible refine Below.alloc ?_ ?_ _) | (with_reducible refine Below.drew ?_) | (with_reducible refine below_dn ?_) | (with_reducible refine Below.setCell ?_ ?_ _) | (with_reducible exact Nat.le_refl _) | omega | (simp only [World.size_alloc, World.size_setCell, World.size_drew]; omega) | (simp; omega) | (simp; done)))) hb1
  have s1 : w.heap.size ≤ w1.heap.size := B1.size
  have z1_c : w.heap.size < w1.heap.size := by (have := hb1.size; (try simp at this); omega)
  have x1_c : w.heap.size ≤ w1.heap.size := Nat.le_of_lt z1_c
  have d1_c_0 : w1.cell? ⟨w.heap.size, 0, none⟩ = some (.int .i64 l) := keep (by go_cell) hb1
  have d1_c_1 : w1.cell? ⟨w.heap.size, 1, none⟩ = some (.int .i64 lo) := keep (by go_cell) hb1
  have d1_c_2 : w1.cell? ⟨w.heap.size, 2, none⟩ = some (.int .i64 hi) := keep (by go_cell) hb1
  have d1_c_3 : w1.cell? ⟨w.heap.size, 3, none⟩ = some (.int .i64 d) := keep (by go_cell) hb1
  have z1_p : w.heap.size + 1 < w1.heap.size := by (have := hb1.size; (try simp at this); omega)
  have x1_p : w.heap.size + 1 ≤ w1.heap.size := Nat.le_of_lt z1_p
  have d1_p_0 : w1.cell? ⟨w.heap.size + 1, 0, none⟩ = some (.int .i64 a) := keep (by go_cell) hb1
  have d1_p_1 : w1.cell? ⟨w.heap.size + 1, 1, none⟩ = some (.int .i64 b) := keep (by go_cell) hb1
  clear hb1
  go_wp2_with fail
  refine (HS.out _).mono ?_
  rintro e w2 ⟨rfl, hb2⟩
  have B2 : Below w.heap.size w w2 := bt (by (repeat' (first | (with_reducible exact Below.refl _ _) | (with_reducible assumption) | (with_reducible refine Below.alloc ?_ ?_ _) | (with_reducible refine Below.drew ?_) | (with_reducible refine below_dn ?_) | (with_reducible refine Below.setCell ?_ ?_ _) | (with_reducible exact Nat.le_refl _) | omega | (simp only [World.size_alloc, World.size_setCell, World.size_drew]; omega) | (simp; omega) | (simp; done)))) hb2
  have s2 : w.heap.size ≤ w2.heap.size := B2.size
  have z2_c : w.heap.size < w2.heap.size := by (have := hb2.size; (try simp at this); omega)
  have x2_c : w.heap.size ≤ w2.heap.size := Nat.le_of_lt z2_c
  have d2_c_0 : w2.cell? ⟨w.heap.size, 0, none⟩ = some (.int .i64 l) := keep (by go_cell) hb2
  have d2_c_1 : w2.cell? ⟨w.heap.size, 1, none⟩ = some (.int .i64 lo) := keep (by go_cell) hb2
  have d2_c_2 : w2.cell? ⟨w.heap.size, 2, none⟩ = some (.int .i64 hi) := keep (by go_cell) hb2
  have d2_c_3 : w2.cell? ⟨w.heap.size, 3, none⟩ = some (.int .i64 d) := keep (by go_cell) hb2
  have z2_p : w.heap.size + 1 < w2.heap.size := by (have := hb2.size; (try simp at this); omega)
  have x2_p : w.heap.size + 1 ≤ w2.heap.size := Nat.le_of_lt z2_p
  have d2_p_0 : w2.cell? ⟨w.heap.size + 1, 0, none⟩ = some (.int .i64 a) := keep (by go_cell) hb2
  have d2_p_1 : w2.cell? ⟨w.heap.size + 1, 1, none⟩ = some (.int .i64 b) := keep (by go_cell) hb2
  clear hb2 d1_c_0 d1_c_1 d1_c_2 d1_c_3 d1_p_0 d1_p_1
  go_wp2
  all_goals
    go_ret
    exact ⟨ret_bool (by first | rfl | (apply decide_eq_true; omega)), by (repeat' (first | (with_reducible exact Below.refl _ _) | (with_reducible assumption) | (with_reducible refine Below.alloc ?_ ?_ _) | (with_reducible refine Below.drew ?_) | (with_reducible refine below_dn ?_) | (with_reducible refine Below.setCell ?_ ?_ _) | (with_reducible exact Nat.le_refl _) | omega | (simp only [World.size_alloc, World.size_setCell, World.size_drew]; omega) | (simp; omega) | (simp; done)))⟩
set_option maxHeartbeats 1000000 in
theorem onlyGoesOn_rest (l lo hi d x y a b : Int) (w : World) (hs : ∀ W, Sane W) (h : OkClk l lo hi d) (k : x ≤ y) :
    Calls Try.prog 8 #[clk l lo hi d, .int .i64 x, .int .i64 y, per a b] w fun e w' => e = .returned (.bool true) ∧ Below w.heap.size w w' := by
  have HS := Lib.hid hs; clear hs
  have H := Lib.hid h; clear h
  go_enter Try.func8, Try.ntmps8
  go_wp2_with fail
  refine (checkref_yes _ _ _ _ _ H.out).mono ?_
  rintro e w1 ⟨rfl, hb1⟩
  have B1 : Below w.heap.size w w1 := bt (by (repeat' (first | (with_reducible exact Below.refl _ _) | (with_reducible assumption) | (with_reducible refine Below.alloc ?_ ?_ _) | (with_reducible refine Below.drew ?_) | (with_reducible refine below_dn ?_) | (with_reducible refine Below.setCell ?_ ?_ _) | (with_reducible exact Nat.le_refl _) | omega | (simp only [World.size_alloc, World.size_setCell, World.size_drew]; omega) | (simp; omega) | (simp; done)))) hb1
  have s1 : w.heap.size ≤ w1.heap.size := B1.size
  have z1_c : w.heap.size < w1.heap.size := by (have := hb1.size; (try simp at this); omega)
  have x1_c : w.heap.size ≤ w1.heap.size := Nat.le_of_lt z1_c
  have d1_c_0 : w1.cell? ⟨w.heap.size, 0, none⟩ = some (.int .i64 l) := keep (by go_cell) hb1
  have d1_c_1 : w1.cell? ⟨w.heap.size, 1, none⟩ = some (.int .i64 lo) := keep (by go_cell) hb1
  have d1_c_2 : w1.cell? ⟨w.heap.size, 2, none⟩ = some (.int .i64 hi) := keep (by go_cell) hb1
  have d1_c_3 : w1.cell? ⟨w.heap.size, 3, none⟩ = some (.int .i64 d) := keep (by go_cell) hb1
  have z1_p : w.heap.size + 1 < w1.heap.size := by (have := hb1.size; (try simp at this); omega)
  have x1_p : w.heap.size + 1 ≤ w1.heap.size := Nat.le_of_lt z1_p
  have d1_p_0 : w1.cell? ⟨w.heap.size + 1, 0, none⟩ = some (.int .i64 a) := keep (by go_cell) hb1
  have d1_p_1 : w1.cell? ⟨w.heap.size + 1, 1, none⟩ = some (.int .i64 b) := keep (by go_cell) hb1
  clear hb1
  go_wp2_with fail
  refine (read_rd _ _ _ _ _ _ H.out).mono ?_
  rintro e w2 ⟨a1, b1, er1, rfl, hr1, hb2⟩
  have R1 := Lib.hid hr1
  clear hr1
  have B2 : Below w.heap.size w w2 := bt (by (repeat' (first | (with_reducible exact Below.refl _ _) | (with_reducible assumption) | (with_reducible refine Below.alloc ?_ ?_ _) | (with_reducible refine Below.drew ?_) | (with_reducible refine below_dn ?_) | (with_reducible refine Below.setCell ?_ ?_ _) | (with_reducible exact Nat.le_refl _) | omega | (simp only [World.size_alloc, World.size_setCell, World.size_drew]; omega) | (simp; omega) | (simp; done)))) hb2
  have s2 : w.heap.size ≤ w2.heap.size := B2.size
  have z2_c : w.heap.size < w2.heap.size := by (have := hb2.size; (try simp at this); omega)
  have x2_c : w.heap.size ≤ w2.heap.size := Nat.le_of_lt z2_c
  have d2_c_0 : w2.cell? ⟨w.heap.size, 0, none⟩ = some (.int .i64 l) := keep (by go_cell) hb2
  have d2_c_1 : w2.cell? ⟨w.heap.size, 1, none⟩ = some (.int .i64 lo) := keep (by go_cell) hb2
  have d2_c_2 : w2.cell? ⟨w.heap.size, 2, none⟩ = some (.int .i64 hi) := keep (by go_cell) hb2
  have d2_c_3 : w2.cell? ⟨w.heap.size, 3, none⟩ = some (.int .i64 d) := keep (by go_cell) hb2
  have z2_p : w.heap.size + 1 < w2.heap.size := by (have := hb2.size; (try simp at this); omega)
  have x2_p : w.heap.size + 1 ≤ w2.heap.size := Nat.le_of_lt z2_p
  have d2_p_0 : w2.cell? ⟨w.heap.size + 1, 0, none⟩ = some (.int .i64 a) := keep (by go_cell) hb2
  have d2_p_1 : w2.cell? ⟨w.heap.size + 1, 1, none⟩ = some (.int .i64 b) := keep (by go_cell) hb2
  clear hb2 d1_c_0 d1_c_1 d1_c_2 d1_c_3 d1_p_0 d1_p_1
  go_wp2_with fail
  refine (read_rd _ _ _ _ _ _ H.out).mono ?_
  rintro e w3 ⟨a2, b2, er2, rfl, hr2, hb3⟩
  have R2 := Lib.hid hr2
  clear hr2
  have B3 : Below w.heap.size w w3 := bt (by (repeat' (first | (with_reducible exact Below.refl _ _) | (with_reducible assumption) | (with_reducible refine Below.alloc ?_ ?_ _) | (with_reducible refine Below.drew ?_) | (with_reducible refine below_dn ?_) | (with_reducible refine Below.setCell ?_ ?_ _) | (with_reducible exact Nat.le_refl _) | omega | (simp only [World.size_alloc, World.size_setCell, World.size_drew]; omega) | (simp; omega) | (simp; done)))) hb3
  have s3 : w.heap.size ≤ w3.heap.size := B3.size
  have z3_c : w.heap.size < w3.heap.size := by (have := hb3.size; (try simp at this); omega)
  have x3_c : w.heap.size ≤ w3.heap.size := Nat.le_of_lt z3_c
  have d3_c_0 : w3.cell? ⟨w.heap.size, 0, none⟩ = some (.int .i64 l) := keep (by go_cell) hb3
  have d3_c_1 : w3.cell? ⟨w.heap.size, 1, none⟩ = some (.int .i64 lo) := keep (by go_cell) hb3
  have d3_c_2 : w3.cell? ⟨w.heap.size, 2, none⟩ = some (.int .i64 hi) := keep (by go_cell) hb3
  have d3_c_3 : w3.cell? ⟨w.heap.size, 3, none⟩ = some (.int .i64 d) := keep (by go_cell) hb3
  have z3_p : w.heap.size + 1 < w3.heap.size := by (have := hb3.size; (try simp at this); omega)
  have x3_p : w.heap.size + 1 ≤ w3.heap.size := Nat.le_of_lt z3_p
  have d3_p_0 : w3.cell? ⟨w.heap.size + 1, 0, none⟩ = some (.int .i64 a) := keep (by go_cell) hb3
  have d3_p_1 : w3.cell? ⟨w.heap.size + 1, 1, none⟩ = some (.int .i64 b) := keep (by go_cell) hb3
  have z3_r1 : w2.heap.size < w3.heap.size := by (have := hb3.size; (try simp at this); omega)
  have x3_r1 : w2.heap.size ≤ w3.heap.size := Nat.le_of_lt z3_r1
  have d3_r1_0 : w3.cell? ⟨w2.heap.size, 0, none⟩ = some (.int .i64 a1) := keep (by go_cell) hb3
  have d3_r1_1 : w3.cell? ⟨w2.heap.size, 1, none⟩ = some (.int .i64 b1) := keep (by go_cell) hb3
  clear hb3 d2_c_0 d2_c_1 d2_c_2 d2_c_3 d2_p_0 d2_p_1
  by_cases ok : er1 = 0 ∧ er2 = 0
  · obtain ⟨rfl, rfl⟩ := ok
    obtain ⟨h1, h2, h3, h4, h5, h6, h7⟩ := H.out
    obtain ⟨-, u1, u2, u3, u4⟩ := (show RD _ _ _ _ _ _ _ 0 → _ from fun h => h.resolve_right (by omega)) R1.out
    obtain ⟨-, v1, v2, v3, v4⟩ := (show RD _ _ _ _ _ _ _ 0 → _ from fun h => h.resolve_right (by omega)) R2.out
    have m1 := rdLo_mono lo d (x - l) (y - l) h6 (by omega)
    have m2 := rdHi_mono hi d (x - l) (y - l) h7 (by omega)
    have m3 := lo_hi h4 h5 h6 h7 (n := x - l) (by omega)
    have m4 := rd_bds h3 h4 h5 h6 h7 (n := y - l) (by omega)
    have q1 : a1 ≤ a2 := by rw [u3, v3]; exact m1
    have q2 : b1 ≤ b2 := by rw [u4, v4]; exact m2
    have q3 : a1 ≤ b1 := by rw [u3, u4]; exact m3
    have q4 : 0 ≤ a2 ∧ a2 ≤ 1099511627776 ∧ b2 ≤ 1099511627776 ∧ 0 ≤ b2 := by rw [v3, v4]; exact m4
    obtain ⟨q4, q5, q6, q7⟩ := q4
    have V3 := Lib.hid v3
    have V4 := Lib.hid v4
    clear m1 m2 m3 m4 u3 u4 v3 v4 R1 R2
    go_wp2_with fail
    refine (sync_sy _ _ _ _ _ _ _ _ H.out).mono ?_
    rintro e w4 ⟨l2, a3, b3, d2, er3, rfl, hr3, hb4⟩
    have B4 : Below w.heap.size w w4 := bt (by (repeat' (first | (with_reducible exact Below.refl _ _) | (with_reducible assumption) | (with_reducible refine Below.alloc ?_ ?_ _) | (with_reducible refine Below.drew ?_) | (with_reducible refine below_dn ?_) | (with_reducible refine Below.setCell ?_ ?_ _) | (with_reducible exact Nat.le_refl _) | omega | (simp only [World.size_alloc, World.size_setCell, World.size_drew]; omega) | (simp; omega) | (simp; done)))) hb4
    have s4 : w.heap.size ≤ w4.heap.size := B4.size
    have z4_c : w.heap.size < w4.heap.size := by (have := hb4.size; (try simp at this); omega)
    have x4_c : w.heap.size ≤ w4.heap.size := Nat.le_of_lt z4_c
    have d4_c_0 : w4.cell? ⟨w.heap.size, 0, none⟩ = some (.int .i64 l) := keep (by go_cell) hb4
    have d4_c_1 : w4.cell? ⟨w.heap.size, 1, none⟩ = some (.int .i64 lo) := keep (by go_cell) hb4
    have d4_c_2 : w4.cell? ⟨w.heap.size, 2, none⟩ = some (.int .i64 hi) := keep (by go_cell) hb4
    have d4_c_3 : w4.cell? ⟨w.heap.size, 3, none⟩ = some (.int .i64 d) := keep (by go_cell) hb4
    have z4_p : w.heap.size + 1 < w4.heap.size := by (have := hb4.size; (try simp at this); omega)
    have x4_p : w.heap.size + 1 ≤ w4.heap.size := Nat.le_of_lt z4_p
    have d4_p_0 : w4.cell? ⟨w.heap.size + 1, 0, none⟩ = some (.int .i64 a) := keep (by go_cell) hb4
    have d4_p_1 : w4.cell? ⟨w.heap.size + 1, 1, none⟩ = some (.int .i64 b) := keep (by go_cell) hb4
    have z4_r1 : w2.heap.size < w4.heap.size := by (have := hb4.size; (try simp at this); omega)
    have x4_r1 : w2.heap.size ≤ w4.heap.size := Nat.le_of_lt z4_r1
    have d4_r1_0 : w4.cell? ⟨w2.heap.size, 0, none⟩ = some (.int .i64 a1) := keep (by go_cell) hb4
    have d4_r1_1 : w4.cell? ⟨w2.heap.size, 1, none⟩ = some (.int .i64 b1) := keep (by go_cell) hb4
    have z4_r2 : w3.heap.size < w4.heap.size := by (have := hb4.size; (try simp at this); omega)
    have x4_r2 : w3.heap.size ≤ w4.heap.size := Nat.le_of_lt z4_r2
    have d4_r2_0 : w4.cell? ⟨w3.heap.size, 0, none⟩ = some (.int .i64 a2) := keep (by go_cell) hb4
    have d4_r2_1 : w4.cell? ⟨w3.heap.size, 1, none⟩ = some (.int .i64 b2) := keep (by go_cell) hb4
    clear hb4 d3_c_0 d3_c_1 d3_c_2 d3_c_3 d3_p_0 d3_p_1 d3_r1_0 d3_r1_1
    rcases hr3 with ⟨rfl, gl, gd, g1, g2, g3, g4, g5, g6, g7⟩ | hne
    · subst l2 d2
      have g8 : a2 ≤ a3 := by rw [g1, ← V3.out]; omega
      have g9 : b3 ≤ b2 := by rw [g2, ← V4.out]; omega
      have g10 : b3 ≤ b := by rw [g2]; omega
      clear g1 g2 V3 V4
      have HC : OkClk y a3 b3 d := by unfold OkClk; omega
      have HC1 := Lib.hid HC
      clear HC
      go_wp2_with fail
      refine (read_ok y a3 b3 d y _ HC1.out (by omega) (by omega)).mono ?_
      rintro e w5 ⟨rfl, hb5⟩
      have B5 : Below w.heap.size w w5 := bt (by (repeat' (first | (with_reducible exact Below.refl _ _) | (with_reducible assumption) | (with_reducible refine Below.alloc ?_ ?_ _) | (with_reducible refine Below.drew ?_) | (with_reducible refine below_dn ?_) | (with_reducible refine Below.setCell ?_ ?_ _) | (with_reducible exact Nat.le_refl _) | omega | (simp only [World.size_alloc, World.size_setCell, World.size_drew]; omega) | (simp; omega) | (simp; done)))) hb5
      have s5 : w.heap.size ≤ w5.heap.size := B5.size
      have z5_c : w.heap.size < w5.heap.size := by (have := hb5.size; (try simp at this); omega)
      have x5_c : w.heap.size ≤ w5.heap.size := Nat.le_of_lt z5_c
      have d5_c_0 : w5.cell? ⟨w.heap.size, 0, none⟩ = some (.int .i64 l) := keep (by go_cell) hb5
      have d5_c_1 : w5.cell? ⟨w.heap.size, 1, none⟩ = some (.int .i64 lo) := keep (by go_cell) hb5
      have d5_c_2 : w5.cell? ⟨w.heap.size, 2, none⟩ = some (.int .i64 hi) := keep (by go_cell) hb5
      have d5_c_3 : w5.cell? ⟨w.heap.size, 3, none⟩ = some (.int .i64 d) := keep (by go_cell) hb5
      have z5_p : w.heap.size + 1 < w5.heap.size := by (have := hb5.size; (try simp at this); omega)
      have x5_p : w.heap.size + 1 ≤ w5.heap.size := Nat.le_of_lt z5_p
      have d5_p_0 : w5.cell? ⟨w.heap.size + 1, 0, none⟩ = some (.int .i64 a) := keep (by go_cell) hb5
      have d5_p_1 : w5.cell? ⟨w.heap.size + 1, 1, none⟩ = some (.int .i64 b) := keep (by go_cell) hb5
      have z5_r1 : w2.heap.size < w5.heap.size := by (have := hb5.size; (try simp at this); omega)
      have x5_r1 : w2.heap.size ≤ w5.heap.size := Nat.le_of_lt z5_r1
      have d5_r1_0 : w5.cell? ⟨w2.heap.size, 0, none⟩ = some (.int .i64 a1) := keep (by go_cell) hb5
      have d5_r1_1 : w5.cell? ⟨w2.heap.size, 1, none⟩ = some (.int .i64 b1) := keep (by go_cell) hb5
      have z5_r2 : w3.heap.size < w5.heap.size := by (have := hb5.size; (try simp at this); omega)
      have x5_r2 : w3.heap.size ≤ w5.heap.size := Nat.le_of_lt z5_r2
      have d5_r2_0 : w5.cell? ⟨w3.heap.size, 0, none⟩ = some (.int .i64 a2) := keep (by go_cell) hb5
      have d5_r2_1 : w5.cell? ⟨w3.heap.size, 1, none⟩ = some (.int .i64 b2) := keep (by go_cell) hb5
      have z5_s : w4.heap.size < w5.heap.size := by (have := hb5.size; (try simp at this); omega)
      have x5_s : w4.heap.size ≤ w5.heap.size := Nat.le_of_lt z5_s
      have d5_s_0 : w5.cell? ⟨w4.heap.size, 0, none⟩ = some (.int .i64 y) := keep (by go_cell) hb5
      have d5_s_1 : w5.cell? ⟨w4.heap.size, 1, none⟩ = some (.int .i64 a3) := keep (by go_cell) hb5
      have d5_s_2 : w5.cell? ⟨w4.heap.size, 2, none⟩ = some (.int .i64 b3) := keep (by go_cell) hb5
      have d5_s_3 : w5.cell? ⟨w4.heap.size, 3, none⟩ = some (.int .i64 d) := keep (by go_cell) hb5
      clear hb5 d4_c_0 d4_c_1 d4_c_2 d4_c_3 d4_p_0 d4_p_1 d4_r1_0 d4_r1_1 d4_r2_0 d4_r2_1
      have e0 := rd_same h6 h7 (lo := a3) (hi := b3)
      obtain ⟨e1, e2⟩ := e0 (y - y) (by omega) (by omega) (by omega)
      obtain ⟨A3, hA3⟩ : ∃ z, rdLo a3 d (y - y) = z := ⟨_, rfl⟩
      obtain ⟨B3, hB3⟩ : ∃ z, rdHi b3 d (y - y) = z := ⟨_, rfl⟩
      rw [hA3] at e1 ⊢
      rw [hB3] at e2 ⊢
      clear hA3 hB3
      go_wp2_with fail
      refine (HS.out _).mono ?_
      rintro e w6 ⟨rfl, hb6⟩
      have B6 : Below w.heap.size w w6 := bt (by (repeat' (first | (with_reducible exact Below.refl _ _) | (with_reducible assumption) | (with_reducible refine Below.alloc ?_ ?_ _) | (with_reducible refine Below.drew ?_) | (with_reducible refine below_dn ?_) | (with_reducible refine Below.setCell ?_ ?_ _) | (with_reducible exact Nat.le_refl _) | omega | (simp only [World.size_alloc, World.size_setCell, World.size_drew]; omega) | (simp; omega) | (simp; done)))) hb6
      have s6 : w.heap.size ≤ w6.heap.size := B6.size
      have z6_c : w.heap.size < w6.heap.size := by (have := hb6.size; (try simp at this); omega)
      have x6_c : w.heap.size ≤ w6.heap.size := Nat.le_of_lt z6_c
      have d6_c_0 : w6.cell? ⟨w.heap.size, 0, none⟩ = some (.int .i64 l) := keep (by go_cell) hb6
      have d6_c_1 : w6.cell? ⟨w.heap.size, 1, none⟩ = some (.int .i64 lo) := keep (by go_cell) hb6
      have d6_c_2 : w6.cell? ⟨w.heap.size, 2, none⟩ = some (.int .i64 hi) := keep (by go_cell) hb6
      have d6_c_3 : w6.cell? ⟨w.heap.size, 3, none⟩ = some (.int .i64 d) := keep (by go_cell) hb6
      have z6_p : w.heap.size + 1 < w6.heap.size := by (have := hb6.size; (try simp at this); omega)
      have x6_p : w.heap.size + 1 ≤ w6.heap.size := Nat.le_of_lt z6_p
      have d6_p_0 : w6.cell? ⟨w.heap.size + 1, 0, none⟩ = some (.int .i64 a) := keep (by go_cell) hb6
      have d6_p_1 : w6.cell? ⟨w.heap.size + 1, 1, none⟩ = some (.int .i64 b) := keep (by go_cell) hb6
      have z6_r1 : w2.heap.size < w6.heap.size := by (have := hb6.size; (try simp at this); omega)
      have x6_r1 : w2.heap.size ≤ w6.heap.size := Nat.le_of_lt z6_r1
      have d6_r1_0 : w6.cell? ⟨w2.heap.size, 0, none⟩ = some (.int .i64 a1) := keep (by go_cell) hb6
      have d6_r1_1 : w6.cell? ⟨w2.heap.size, 1, none⟩ = some (.int .i64 b1) := keep (by go_cell) hb6
      have z6_r2 : w3.heap.size < w6.heap.size := by (have := hb6.size; (try simp at this); omega)
      have x6_r2 : w3.heap.size ≤ w6.heap.size := Nat.le_of_lt z6_r2
      have d6_r2_0 : w6.cell? ⟨w3.heap.size, 0, none⟩ = some (.int .i64 a2) := keep (by go_cell) hb6
      have d6_r2_1 : w6.cell? ⟨w3.heap.size, 1, none⟩ = some (.int .i64 b2) := keep (by go_cell) hb6
      have z6_s : w4.heap.size < w6.heap.size := by (have := hb6.size; (try simp at this); omega)
      have x6_s : w4.heap.size ≤ w6.heap.size := Nat.le_of_lt z6_s
      have d6_s_0 : w6.cell? ⟨w4.heap.size, 0, none⟩ = some (.int .i64 y) := keep (by go_cell) hb6
      have d6_s_1 : w6.cell? ⟨w4.heap.size, 1, none⟩ = some (.int .i64 a3) := keep (by go_cell) hb6
      have d6_s_2 : w6.cell? ⟨w4.heap.size, 2, none⟩ = some (.int .i64 b3) := keep (by go_cell) hb6
      have d6_s_3 : w6.cell? ⟨w4.heap.size, 3, none⟩ = some (.int .i64 d) := keep (by go_cell) hb6
      have z6_r3 : w5.heap.size < w6.heap.size := by (have := hb6.size; (try simp at this); omega)
      have x6_r3 : w5.heap.size ≤ w6.heap.size := Nat.le_of_lt z6_r3
      have d6_r3_0 : w6.cell? ⟨w5.heap.size, 0, none⟩ = some (.int .i64 A3) := keep (by go_cell) hb6
      have d6_r3_1 : w6.cell? ⟨w5.heap.size, 1, none⟩ = some (.int .i64 B3) := keep (by go_cell) hb6
      clear hb6 d5_c_0 d5_c_1 d5_c_2 d5_c_3 d5_p_0 d5_p_1 d5_r1_0 d5_r1_1 d5_r2_0 d5_r2_1 d5_s_0 d5_s_1 d5_s_2 d5_s_3
      go_wp2
      all_goals
        go_ret
        exact ⟨ret_bool (by first | rfl | (apply decide_eq_true; omega)), by (repeat' (first | (with_reducible exact Below.refl _ _) | (with_reducible assumption) | (with_reducible refine Below.alloc ?_ ?_ _) | (with_reducible refine Below.drew ?_) | (with_reducible refine below_dn ?_) | (with_reducible refine Below.setCell ?_ ?_ _) | (with_reducible exact Nat.le_refl _) | omega | (simp only [World.size_alloc, World.size_setCell, World.size_drew]; omega) | (simp; omega) | (simp; done)))⟩
    · clear V3 V4
      go_wp2_with fail
      refine (HS.out _).mono ?_
      rintro e w5 ⟨rfl, hb5⟩
      have B5 : Below w.heap.size w w5 := bt (by (repeat' (first | (with_reducible exact Below.refl _ _) | (with_reducible assumption) | (with_reducible refine Below.alloc ?_ ?_ _) | (with_reducible refine Below.drew ?_) | (with_reducible refine below_dn ?_) | (with_reducible refine Below.setCell ?_ ?_ _) | (with_reducible exact Nat.le_refl _) | omega | (simp only [World.size_alloc, World.size_setCell, World.size_drew]; omega) | (simp; omega) | (simp; done)))) hb5
      have s5 : w.heap.size ≤ w5.heap.size := B5.size
      clear hb5 d4_c_0 d4_c_1 d4_c_2 d4_c_3 d4_p_0 d4_p_1 d4_r1_0 d4_r1_1 d4_r2_0 d4_r2_1
      go_wp2
      all_goals
        go_ret
        exact ⟨ret_bool (by first | rfl | (apply decide_eq_true; omega)), by (repeat' (first | (with_reducible exact Below.refl _ _) | (with_reducible assumption) | (with_reducible refine Below.alloc ?_ ?_ _) | (with_reducible refine Below.drew ?_) | (with_reducible refine below_dn ?_) | (with_reducible refine Below.setCell ?_ ?_ _) | (with_reducible exact Nat.le_refl _) | omega | (simp only [World.size_alloc, World.size_setCell, World.size_drew]; omega) | (simp; omega) | (simp; done)))⟩
  · have ne : er1 ≠ 0 ∨ er2 ≠ 0 := by omega
    clear R1 R2
    go_wp2_with fail
    all_goals
      refine (HS.out _).mono ?_
      rintro e w4 ⟨rfl, hb4⟩
      have B4 : Below w.heap.size w w4 := bt (by (repeat' (first | (with_reducible exact Below.refl _ _) | (with_reducible assumption) | (with_reducible refine Below.alloc ?_ ?_ _) | (with_reducible refine Below.drew ?_) | (with_reducible refine below_dn ?_) | (with_reducible refine Below.setCell ?_ ?_ _) | (with_reducible exact Nat.le_refl _) | omega | (simp only [World.size_alloc, World.size_setCell, World.size_drew]; omega) | (simp; omega) | (simp; done)))) hb4
      have s4 : w.heap.size ≤ w4.heap.size := B4.size
      clear hb4
      go_wp2
      go_ret
      exact ⟨ret_bool (by first | rfl | (apply decide_eq_true; omega)), by (repeat' (first | (with_reducible exact Below.refl _ _) | (with_reducible assumption) | (with_reducible refine Below.alloc ?_ ?_ _) | (with_reducible refine Below.drew ?_) | (with_reducible refine below_dn ?_) | (with_reducible refine Below.setCell ?_ ?_ _) | (with_reducible exact Nat.le_refl _) | omega | (simp only [World.size_alloc, World.size_setCell, World.size_drew]; omega) | (simp; omega) | (simp; done)))⟩
theorem onlyGoesOn (l lo hi d x y a b : Int) (w : World) (hs : ∀ W, Sane W) :
    Calls Try.prog 8 #[clk l lo hi d, .int .i64 x, .int .i64 y, per a b] w fun e w' => e = .returned (.bool true) ∧ Below w.heap.size w w' := by
  by_cases h : chkB l lo hi d = true
  · by_cases k : y < x
    · exact onlyGoesOn_order _ _ _ _ _ _ _ _ _ hs (chk_iff.1 h) k
    · exact onlyGoesOn_rest _ _ _ _ _ _ _ _ _ hs (chk_iff.1 h) (by omega)
  · exact onlyGoesOn_bad _ _ _ _ _ _ _ _ _ hs (by simpa using h)
end Go.Proofs.Ytnojnfmhinjcpaa
