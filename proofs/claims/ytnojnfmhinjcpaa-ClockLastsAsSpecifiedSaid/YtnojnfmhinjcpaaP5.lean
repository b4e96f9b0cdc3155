import Derived.Test.YtnojnfmhinjcpaaN
namespace Go.Proofs.Ytnojnfmhinjcpaa
set_option linter.unusedVariables false
set_option linter.unusedSimpArgs false
open Go.RowKit Go.Sort
set_option maxHeartbeats 1000000 in
theorem lasts_bad (l lo hi d x t : Int) (w : World) (hs : ∀ W, Sane W) (h : chkB l lo hi d = false) :
    Calls Try.prog 5 #[clk l lo hi d, .int .i64 x, .int .i64 t] w fun e w' => e = .returned (.bool true) ∧ Below w.heap.size w w' := by
  have HS := Lib.hid hs; clear hs
  have H := Lib.hid h; clear h
  go_enter Try.func5, Try.ntmps5
  go_wp2_with fail
  refine (instant_any _ _).mono ?_
  rintro e w0 ⟨rfl, rfl⟩
  go_wp2_with fail
  refine (checkref_no _ _ _ _ _ H.out).mono ?_
  rintro e w1 ⟨rfl, hb1⟩
  have B1 : Below w.heap.size w w1 := bt (by (repeat' (first | (with_reducible exact Below.refl _ _) | (with_reducible assumption) | (with_reducible refine Below.alloc ?_ ?_ _) | (with_reducible refine Below.drew ?_) | (with_reducible refine below_dn ?_) | (with_reducible refine Below.setCell ?_ ?_ _) | (with_reducible exact Nat.le_refl _) | omega | (simp only [World.size_alloc, World.size_setCell, World.size_drew]; omega) | (simp; omega) | (simp; done)))) hb1
  have s1 : w.heap.size ≤ w1.heap.size := B1.size
  have z1_c : w.heap.size < w1.heap.size := by (have := hb1.size; (try simp at this); omega)
  have x1_c : w.heap.size ≤ w1.heap.size := Nat.le_of_lt z1_c
  have d1_c_0 : w1.cell? ⟨w.heap.size, 0, none⟩ = some (.int .i64 l) := keep (by go_cell) hb1
  have d1_c_1 : w1.cell? ⟨w.heap.size, 1, none⟩ = some (.int .i64 lo) := keep (by go_cell) hb1
  have d1_c_2 : w1.cell? ⟨w.heap.size, 2, none⟩ = some (.int .i64 hi) := keep (by go_cell) hb1
  have d1_c_3 : w1.cell? ⟨w.heap.size, 3, none⟩ = some (.int .i64 d) := keep (by go_cell) hb1
  clear hb1
  go_wp2_with fail
  refine (HS.out _).mono ?_
  rintro e w2 ⟨rfl, hb2⟩
  have B2 : Below w.heap.size w w2 := bt (by (repeat' (first | (with_reducible exact Below.refl _ _) | (with_reducible assumption) | (with_reducible refine Below.alloc ?_ ?_ _) | (with_reducible refine Below.drew ?_) | (with_reducible refine below_dn ?_) | (with_reducible refine Below.setCell ?_ ?_ _) | (with_reducible exact Nat.le_refl _) | omega | (simp only [World.size_alloc, World.size_setCell, World.size_drew]; omega) | (simp; omega) | (simp; done)))) hb2
  have s2 : w.heap.size ≤ w2.heap.size := B2.size
  have z2_c : w.heap.size < w2.heap.size := by (have := hb2.size; (try simp at this); omega)
  have x2_c : w.heap.size ≤ w2.heap.size := Nat.le_of_lt z2_c
  have d2_c_0 : w2.cell? ⟨w.heap.size, 0, none⟩ = some (.int .i64 l) := keep (by go_cell) hb2
  have d2_c_1 : w2.cell? ⟨w.heap.size, 1, none⟩ = some (.int .i64 lo) := keep (by go_cell) hb2
  have d2_c_2 : w2.cell? ⟨w.heap.size, 2, none⟩ = some (.int .i64 hi) := keep (by go_cell) hb2
  have d2_c_3 : w2.cell? ⟨w.heap.size, 3, none⟩ = some (.int .i64 d) := keep (by go_cell) hb2
  clear hb2 d1_c_0 d1_c_1 d1_c_2 d1_c_3
  go_wp2
  all_goals
    go_ret
    exact ⟨ret_bool (by first | rfl | (apply decide_eq_true; omega) | (simp; omega)), by (repeat' (first | (with_reducible exact Below.refl _ _) | (with_reducible assumption) | (with_reducible refine Below.alloc ?_ ?_ _) | (with_reducible refine Below.drew ?_) | (with_reducible refine below_dn ?_) | (with_reducible refine Below.setCell ?_ ?_ _) | (with_reducible exact Nat.le_refl _) | omega | (simp only [World.size_alloc, World.size_setCell, World.size_drew]; omega) | (simp; omega) | (simp; done)))⟩
set_option maxHeartbeats 1000000 in
theorem lasts_time (l lo hi d x t : Int) (w : World) (hs : ∀ W, Sane W) (h : OkClk l lo hi d) (k : instB t = false) :
    Calls Try.prog 5 #[clk l lo hi d, .int .i64 x, .int .i64 t] w fun e w' => e = .returned (.bool true) ∧ Below w.heap.size w w' := by
  have HS := Lib.hid hs; clear hs
  have H := Lib.hid h; clear h
  have T := Lib.hid k; clear k
  go_enter Try.func5, Try.ntmps5
  go_wp2_with fail
  refine (instant_any _ _).mono ?_
  rintro e w0 ⟨rfl, rfl⟩
  rw [T.out]
  go_wp2_with fail
  refine (checkref_yes _ _ _ _ _ H.out).mono ?_
  rintro e w1 ⟨rfl, hb1⟩
  have B1 : Below w.heap.size w w1 := bt (by (repeat' (first | (with_reducible exact Below.refl _ _) | (with_reducible assumption) | (with_reducible refine Below.alloc ?_ ?_ _) | (with_reducible refine Below.drew ?_) | (with_reducible refine below_dn ?_) | (with_reducible refine Below.setCell ?_ ?_ _) | (with_reducible exact Nat.le_refl _) | omega | (simp only [World.size_alloc, World.size_setCell, World.size_drew]; omega) | (simp; omega) | (simp; done)))) hb1
  have s1 : w.heap.size ≤ w1.heap.size := B1.size
  have z1_c : w.heap.size < w1.heap.size := by (have := hb1.size; (try simp at this); omega)
  have x1_c : w.heap.size ≤ w1.heap.size := Nat.le_of_lt z1_c
  have d1_c_0 : w1.cell? ⟨w.heap.size, 0, none⟩ = some (.int .i64 l) := keep (by go_cell) hb1
  have d1_c_1 : w1.cell? ⟨w.heap.size, 1, none⟩ = some (.int .i64 lo) := keep (by go_cell) hb1
  have d1_c_2 : w1.cell? ⟨w.heap.size, 2, none⟩ = some (.int .i64 hi) := keep (by go_cell) hb1
  have d1_c_3 : w1.cell? ⟨w.heap.size, 3, none⟩ = some (.int .i64 d) := keep (by go_cell) hb1
  clear hb1
  go_wp2_with fail
  refine (HS.out _).mono ?_
  rintro e w2 ⟨rfl, hb2⟩
  have B2 : Below w.heap.size w w2 := bt (by (repeat' (first | (with_reducible exact Below.refl _ _) | (with_reducible assumption) | (with_reducible refine Below.alloc ?_ ?_ _) | (with_reducible refine Below.drew ?_) | (with_reducible refine below_dn ?_) | (with_reducible refine Below.setCell ?_ ?_ _) | (with_reducible exact Nat.le_refl _) | omega | (simp only [World.size_alloc, World.size_setCell, World.size_drew]; omega) | (simp; omega) | (simp; done)))) hb2
  have s2 : w.heap.size ≤ w2.heap.size := B2.size
  have z2_c : w.heap.size < w2.heap.size := by (have := hb2.size; (try simp at this); omega)
  have x2_c : w.heap.size ≤ w2.heap.size := Nat.le_of_lt z2_c
  have d2_c_0 : w2.cell? ⟨w.heap.size, 0, none⟩ = some (.int .i64 l) := keep (by go_cell) hb2
  have d2_c_1 : w2.cell? ⟨w.heap.size, 1, none⟩ = some (.int .i64 lo) := keep (by go_cell) hb2
  have d2_c_2 : w2.cell? ⟨w.heap.size, 2, none⟩ = some (.int .i64 hi) := keep (by go_cell) hb2
  have d2_c_3 : w2.cell? ⟨w.heap.size, 3, none⟩ = some (.int .i64 d) := keep (by go_cell) hb2
  clear hb2 d1_c_0 d1_c_1 d1_c_2 d1_c_3
  go_wp2
  all_goals
    go_ret
    exact ⟨ret_bool (by first | rfl | (apply decide_eq_true; omega) | (simp; omega)), by (repeat' (first | (with_reducible exact Below.refl _ _) | (with_reducible assumption) | (with_reducible refine Below.alloc ?_ ?_ _) | (with_reducible refine Below.drew ?_) | (with_reducible refine below_dn ?_) | (with_reducible refine Below.setCell ?_ ?_ _) | (with_reducible exact Nat.le_refl _) | omega | (simp only [World.size_alloc, World.size_setCell, World.size_drew]; omega) | (simp; omega) | (simp; done)))⟩
noncomputable def wrth (l hi d x t : Int) : Int := if x < l ∨ 2199023255552 < x then 0 else max 0 (untilF l hi d t + 1 - x)
theorem worth_fn (l lo hi d x t : Int) (w : World) (h : OkClk l lo hi d) :
    Calls Try.prog 33 #[clk l lo hi d, .int .i64 x, .int .i64 t] w fun e w' => e = .returned (.int .i64 (wrth l hi d x t)) ∧ Below w.heap.size w w' := by
  unfold wrth
  split
  · exact worth_out _ _ _ _ _ _ _ ‹_›
  · exact worth_in _ _ _ _ _ _ _ h (by omega) (by omega)
theorem worthref_fn (l lo hi d x t : Int) (w : World) (h : OkClk l lo hi d) :
    Calls Try.prog 34 #[clk l lo hi d, .int .i64 x, .int .i64 t] w fun e w' => e = .returned (.int .i64 (wrth l hi d x t)) ∧ Below w.heap.size w w' := by
  unfold wrth
  split
  · exact worthref_out _ _ _ _ _ _ _ ‹_›
  · exact worthref_in _ _ _ _ _ _ _ h (by omega) (by omega)
set_option maxHeartbeats 4000000 in
theorem lasts_none (l lo hi d x t : Int) (w : World) (hs : ∀ W, Sane W) (h : OkClk l lo hi d) (k : instB t = true) (n1 : untilF l hi d t = -1) (n2 : t ≤ rdHi hi d (l - l)) :
    Calls Try.prog 5 #[clk l lo hi d, .int .i64 x, .int .i64 t] w fun e w' => e = .returned (.bool true) ∧ Below w.heap.size w w' := by
  have HS := Lib.hid hs; clear hs
  have H := Lib.hid h; clear h
  have T := Lib.hid k; clear k
  obtain ⟨u, hu⟩ : ∃ z, untilF l hi d t = z := ⟨_, rfl⟩
  obtain ⟨v, hv⟩ : ∃ z, wrth l hi d x t = z := ⟨_, rfl⟩
  have c1 := fun W : World => until_fn l lo hi d t W H.out
  have c2 := fun W : World => untilref_fn l lo hi d t W H.out
  have c3 := fun W : World => worth_fn l lo hi d x t W H.out
  have c4 := fun W : World => worthref_fn l lo hi d x t W H.out
  rw [hu] at c1 c2
  rw [hv] at c3 c4
  have C1 := Lib.hid c1; have C2 := Lib.hid c2; have C3 := Lib.hid c3; have C4 := Lib.hid c4
  clear c1 c2 c3 c4 hv
  have U := Lib.hid hu; clear hu
  rw [U.out] at n1
  have hl := H.out.1
  have hl2 := H.out.2.1
  obtain ⟨R, hR⟩ : ∃ z, rdHi hi d (l - l) = z := ⟨_, rfl⟩
  obtain ⟨R2, hR2⟩ : ∃ z, rdLo lo d (l - l) = z := ⟨_, rfl⟩
  have c5 := fun W : World => read_ok l lo hi d l W H.out hl2 (by omega)
  rw [hR, hR2] at c5
  have C5 := Lib.hid c5
  have n3 : t ≤ R := by rw [← hR]; exact n2
  have mx : max (u + 1) l = l := by omega
  have MX := Lib.hid mx
  have n4 : -1 ≤ u := by omega
  have n5 : u < 0 := by omega
  clear n1 n2 c5 hR hR2 mx
  go_enter Try.func5, Try.ntmps5
  go_wp2_with fail
  refine (instant_any _ _).mono ?_
  rintro e w0 ⟨rfl, rfl⟩
  rw [T.out]
  go_wp2_with fail
  refine (checkref_yes _ _ _ _ _ H.out).mono ?_
  rintro e w1 ⟨rfl, hb1⟩
  have B1 : Below w.heap.size w w1 := bt (by (repeat' (first | (with_reducible exact Below.refl _ _) | (with_reducible assumption) | (with_reducible refine Below.alloc ?_ ?_ _) | (with_reducible refine Below.drew ?_) | (with_reducible refine below_dn ?_) | (with_reducible refine Below.setCell ?_ ?_ _) | (with_reducible exact Nat.le_refl _) | omega | (simp only [World.size_alloc, World.size_setCell, World.size_drew]; omega) | (simp; omega) | (simp; done)))) hb1
  have s1 : w.heap.size ≤ w1.heap.size := B1.size
  have z1_c : w.heap.size < w1.heap.size := by (have := hb1.size; (try simp at this); omega)
  have x1_c : w.heap.size ≤ w1.heap.size := Nat.le_of_lt z1_c
  have d1_c_0 : w1.cell? ⟨w.heap.size, 0, none⟩ = some (.int .i64 l) := keep (by go_cell) hb1
  have d1_c_1 : w1.cell? ⟨w.heap.size, 1, none⟩ = some (.int .i64 lo) := keep (by go_cell) hb1
  have d1_c_2 : w1.cell? ⟨w.heap.size, 2, none⟩ = some (.int .i64 hi) := keep (by go_cell) hb1
  have d1_c_3 : w1.cell? ⟨w.heap.size, 3, none⟩ = some (.int .i64 d) := keep (by go_cell) hb1
  clear hb1
  go_wp2_with fail
  refine (C1.out _).mono ?_
  rintro e w2 ⟨⟨rfl, -⟩, hb2⟩
  have B2 : Below w.heap.size w w2 := bt (by (repeat' (first | (with_reducible exact Below.refl _ _) | (with_reducible assumption) | (with_reducible refine Below.alloc ?_ ?_ _) | (with_reducible refine Below.drew ?_) | (with_reducible refine below_dn ?_) | (with_reducible refine Below.setCell ?_ ?_ _) | (with_reducible exact Nat.le_refl _) | omega | (simp only [World.size_alloc, World.size_setCell, World.size_drew]; omega) | (simp; omega) | (simp; done)))) hb2
  have s2 : w.heap.size ≤ w2.heap.size := B2.size
  have z2_c : w.heap.size < w2.heap.size := by (have := hb2.size; (try simp at this); omega)
  have x2_c : w.heap.size ≤ w2.heap.size := Nat.le_of_lt z2_c
  have d2_c_0 : w2.cell? ⟨w.heap.size, 0, none⟩ = some (.int .i64 l) := keep (by go_cell) hb2
  have d2_c_1 : w2.cell? ⟨w.heap.size, 1, none⟩ = some (.int .i64 lo) := keep (by go_cell) hb2
  have d2_c_2 : w2.cell? ⟨w.heap.size, 2, none⟩ = some (.int .i64 hi) := keep (by go_cell) hb2
  have d2_c_3 : w2.cell? ⟨w.heap.size, 3, none⟩ = some (.int .i64 d) := keep (by go_cell) hb2
  clear hb2 d1_c_0 d1_c_1 d1_c_2 d1_c_3
  go_wp2
  have gc := grow_cell
  refine wp_region_quiet_below (by kernel_rfl) (by kernel_rfl) ?_
  repeat (quiet_step (first | (go_at_call 32; exact Calls.regrown_of ((C2.out _).mono fun _ _ h => ⟨h.1.1, h.2⟩)) | (go_at_call 33; exact Calls.regrown_of (C3.out _)) | (go_at_call 34; exact Calls.regrown_of (C4.out _))))
  refine wpQuiet_nil ?_
  intro w3 hw'
  obtain ⟨⟨dq, osq⟩, hw''⟩ := hw'
  have hb3 := below_of_grow hw''
  clear hw'' gc
  have B3 : Below w.heap.size w w3 := bt (by (repeat' (first | (with_reducible exact Below.refl _ _) | (with_reducible assumption) | (with_reducible refine Below.alloc ?_ ?_ _) | (with_reducible refine Below.drew ?_) | (with_reducible refine below_dn ?_) | (with_reducible refine Below.setCell ?_ ?_ _) | (with_reducible exact Nat.le_refl _) | omega | (simp only [World.size_alloc, World.size_setCell, World.size_drew]; omega) | (simp; omega) | (simp; done)))) hb3
  have s3 : w.heap.size ≤ w3.heap.size := B3.size
  have z3_c : w.heap.size < w3.heap.size := by (have := hb3.size; (try simp at this); omega)
  have x3_c : w.heap.size ≤ w3.heap.size := Nat.le_of_lt z3_c
  have d3_c_0 : w3.cell? ⟨w.heap.size, 0, none⟩ = some (.int .i64 l) := keep (by go_cell) hb3
  have d3_c_1 : w3.cell? ⟨w.heap.size, 1, none⟩ = some (.int .i64 lo) := keep (by go_cell) hb3
  have d3_c_2 : w3.cell? ⟨w.heap.size, 2, none⟩ = some (.int .i64 hi) := keep (by go_cell) hb3
  have d3_c_3 : w3.cell? ⟨w.heap.size, 3, none⟩ = some (.int .i64 d) := keep (by go_cell) hb3
  clear hb3 d2_c_0 d2_c_1 d2_c_2 d2_c_3
  go_wp2_with fail
  rw [MX.out]
  refine (C5.out _).mono ?_
  rintro e w4 ⟨rfl, hb4⟩
  have B4 : Below w.heap.size w w4 := bt (by (repeat' (first | (with_reducible exact Below.refl _ _) | (with_reducible assumption) | (with_reducible refine Below.alloc ?_ ?_ _) | (with_reducible refine Below.drew ?_) | (with_reducible refine below_dn ?_) | (with_reducible refine Below.setCell ?_ ?_ _) | (with_reducible exact Nat.le_refl _) | omega | (simp only [World.size_alloc, World.size_setCell, World.size_drew]; omega) | (simp; omega) | (simp; done)))) hb4
  have s4 : w.heap.size ≤ w4.heap.size := B4.size
  have z4_c : w.heap.size < w4.heap.size := by (have := hb4.size; (try simp at this); omega)
  have x4_c : w.heap.size ≤ w4.heap.size := Nat.le_of_lt z4_c
  have d4_c_0 : w4.cell? ⟨w.heap.size, 0, none⟩ = some (.int .i64 l) := keep (by go_cell) hb4
  have d4_c_1 : w4.cell? ⟨w.heap.size, 1, none⟩ = some (.int .i64 lo) := keep (by go_cell) hb4
  have d4_c_2 : w4.cell? ⟨w.heap.size, 2, none⟩ = some (.int .i64 hi) := keep (by go_cell) hb4
  have d4_c_3 : w4.cell? ⟨w.heap.size, 3, none⟩ = some (.int .i64 d) := keep (by go_cell) hb4
  clear hb4 d3_c_0 d3_c_1 d3_c_2 d3_c_3
  go_wp2_with fail
  refine (HS.out _).mono ?_
  rintro e w5 ⟨rfl, hb5⟩
  have B5 : Below w.heap.size w w5 := bt (by (repeat' (first | (with_reducible exact Below.refl _ _) | (with_reducible assumption) | (with_reducible refine Below.alloc ?_ ?_ _) | (with_reducible refine Below.drew ?_) | (with_reducible refine below_dn ?_) | (with_reducible refine Below.setCell ?_ ?_ _) | (with_reducible exact Nat.le_refl _) | omega | (simp only [World.size_alloc, World.size_setCell, World.size_drew]; omega) | (simp; omega) | (simp; done)))) hb5
  have s5 : w.heap.size ≤ w5.heap.size := B5.size
  have z5_c : w.heap.size < w5.heap.size := by (have := hb5.size; (try simp at this); omega)
  have x5_c : w.heap.size ≤ w5.heap.size := Nat.le_of_lt z5_c
  have d5_c_0 : w5.cell? ⟨w.heap.size, 0, none⟩ = some (.int .i64 l) := keep (by go_cell) hb5
  have d5_c_1 : w5.cell? ⟨w.heap.size, 1, none⟩ = some (.int .i64 lo) := keep (by go_cell) hb5
  have d5_c_2 : w5.cell? ⟨w.heap.size, 2, none⟩ = some (.int .i64 hi) := keep (by go_cell) hb5
  have d5_c_3 : w5.cell? ⟨w.heap.size, 3, none⟩ = some (.int .i64 d) := keep (by go_cell) hb5
  have z5_r : w4.heap.size < w5.heap.size := by (have := hb5.size; (try simp at this); omega)
  have x5_r : w4.heap.size ≤ w5.heap.size := Nat.le_of_lt z5_r
  have d5_r_0 : w5.cell? ⟨w4.heap.size, 0, none⟩ = some (.int .i64 R2) := keep (by go_cell) hb5
  have d5_r_1 : w5.cell? ⟨w4.heap.size, 1, none⟩ = some (.int .i64 R) := keep (by go_cell) hb5
  clear hb5 d4_c_0 d4_c_1 d4_c_2 d4_c_3
  go_wp2_with fail
  refine (before_any _ _ _ _).mono ?_
  rintro e w6 ⟨rfl, hb6⟩
  have B6 : Below w.heap.size w w6 := bt (by (repeat' (first | (with_reducible exact Below.refl _ _) | (with_reducible assumption) | (with_reducible refine Below.alloc ?_ ?_ _) | (with_reducible refine Below.drew ?_) | (with_reducible refine below_dn ?_) | (with_reducible refine Below.setCell ?_ ?_ _) | (with_reducible exact Nat.le_refl _) | omega | (simp only [World.size_alloc, World.size_setCell, World.size_drew]; omega) | (simp; omega) | (simp; done)))) hb6
  have s6 : w.heap.size ≤ w6.heap.size := B6.size
  have z6_c : w.heap.size < w6.heap.size := by (have := hb6.size; (try simp at this); omega)
  have x6_c : w.heap.size ≤ w6.heap.size := Nat.le_of_lt z6_c
  have d6_c_0 : w6.cell? ⟨w.heap.size, 0, none⟩ = some (.int .i64 l) := keep (by go_cell) hb6
  have d6_c_1 : w6.cell? ⟨w.heap.size, 1, none⟩ = some (.int .i64 lo) := keep (by go_cell) hb6
  have d6_c_2 : w6.cell? ⟨w.heap.size, 2, none⟩ = some (.int .i64 hi) := keep (by go_cell) hb6
  have d6_c_3 : w6.cell? ⟨w.heap.size, 3, none⟩ = some (.int .i64 d) := keep (by go_cell) hb6
  have z6_r : w4.heap.size < w6.heap.size := by (have := hb6.size; (try simp at this); omega)
  have x6_r : w4.heap.size ≤ w6.heap.size := Nat.le_of_lt z6_r
  have d6_r_0 : w6.cell? ⟨w4.heap.size, 0, none⟩ = some (.int .i64 R2) := keep (by go_cell) hb6
  have d6_r_1 : w6.cell? ⟨w4.heap.size, 1, none⟩ = some (.int .i64 R) := keep (by go_cell) hb6
  clear hb6 d5_c_0 d5_c_1 d5_c_2 d5_c_3 d5_r_0 d5_r_1
  go_wp2
  all_goals
    go_ret
    exact ⟨ret_bool (by first | rfl | (apply decide_eq_true; omega) | (simp; omega)), by (repeat' (first | (with_reducible exact Below.refl _ _) | (with_reducible assumption) | (with_reducible refine Below.alloc ?_ ?_ _) | (with_reducible refine Below.drew ?_) | (with_reducible refine below_dn ?_) | (with_reducible refine Below.setCell ?_ ?_ _) | (with_reducible exact Nat.le_refl _) | omega | (simp only [World.size_alloc, World.size_setCell, World.size_drew]; omega) | (simp; omega) | (simp; done)))⟩
set_option maxHeartbeats 4000000 in
theorem lasts_some (l lo hi d x t : Int) (w : World) (hs : ∀ W, Sane W) (h : OkClk l lo hi d) (k : instB t = true) (n0 : l ≤ untilF l hi d t) (n1 : untilF l hi d t < 2199023255552) (n3 : rdHi hi d (untilF l hi d t - l) < t) (n4 : t ≤ rdHi hi d (untilF l hi d t + 1 - l)) :
    Calls Try.prog 5 #[clk l lo hi d, .int .i64 x, .int .i64 t] w fun e w' => e = .returned (.bool true) ∧ Below w.heap.size w w' := by
  have HS := Lib.hid hs; clear hs
  have H := Lib.hid h; clear h
  have T := Lib.hid k; clear k
  obtain ⟨u, hu⟩ : ∃ z, untilF l hi d t = z := ⟨_, rfl⟩
  obtain ⟨v, hv⟩ : ∃ z, wrth l hi d x t = z := ⟨_, rfl⟩
  have c1 := fun W : World => until_fn l lo hi d t W H.out
  have c2 := fun W : World => untilref_fn l lo hi d t W H.out
  have c3 := fun W : World => worth_fn l lo hi d x t W H.out
  have c4 := fun W : World => worthref_fn l lo hi d x t W H.out
  rw [hu] at c1 c2
  rw [hv] at c3 c4
  have C1 := Lib.hid c1; have C2 := Lib.hid c2; have C3 := Lib.hid c3; have C4 := Lib.hid c4
  clear c1 c2 c3 c4 hv
  have U := Lib.hid hu; clear hu
  rw [U.out] at n0 n1 n3 n4
  have hl := H.out.1
  have hl2 := H.out.2.1
  obtain ⟨R, hR⟩ : ∃ z, rdHi hi d (u - l) = z := ⟨_, rfl⟩
  obtain ⟨R2, hR2⟩ : ∃ z, rdLo lo d (u - l) = z := ⟨_, rfl⟩
  have c6 := fun W : World => read_ok l lo hi d u W H.out (by omega) (by omega)
  rw [hR, hR2] at c6
  have C6 := Lib.hid c6
  have n7 : R < t := by rw [← hR]; exact n3
  clear c6 hR hR2
  obtain ⟨S, hS⟩ : ∃ z, rdHi hi d (u + 1 - l) = z := ⟨_, rfl⟩
  obtain ⟨S2, hS2⟩ : ∃ z, rdLo lo d (u + 1 - l) = z := ⟨_, rfl⟩
  have c5 := fun W : World => read_ok l lo hi d (u + 1) W H.out (by omega) (by omega)
  rw [hS, hS2] at c5
  have C5 := Lib.hid c5
  have n8 : t ≤ S := by rw [← hS]; exact n4
  have mx : max (u + 1) l = u + 1 := by omega
  have MX := Lib.hid mx
  clear n3 n4 c5 hS hS2 mx
  go_enter Try.func5, Try.ntmps5
  go_wp2_with fail
  refine (instant_any _ _).mono ?_
  rintro e w0 ⟨rfl, rfl⟩
  rw [T.out]
  go_wp2_with fail
  refine (checkref_yes _ _ _ _ _ H.out).mono ?_
  rintro e w1 ⟨rfl, hb1⟩
  have B1 : Below w.heap.size w w1 := bt (by (repeat' (first | (with_reducible exact Below.refl _ _) | (with_reducible assumption) | (with_reducible refine Below.alloc ?_ ?_ _) | (with_reducible refine Below.drew ?_) | (with_reducible refine below_dn ?_) | (with_reducible refine Below.setCell ?_ ?_ _) | (with_reducible exact Nat.le_refl _) | omega | (simp only [World.size_alloc, World.size_setCell, World.size_drew]; omega) | (simp; omega) | (simp; done)))) hb1
  have s1 : w.heap.size ≤ w1.heap.size := B1.size
  have z1_c : w.heap.size < w1.heap.size := by (have := hb1.size; (try simp at this); omega)
  have x1_c : w.heap.size ≤ w1.heap.size := Nat.le_of_lt z1_c
  have d1_c_0 : w1.cell? ⟨w.heap.size, 0, none⟩ = some (.int .i64 l) := keep (by go_cell) hb1
  have d1_c_1 : w1.cell? ⟨w.heap.size, 1, none⟩ = some (.int .i64 lo) := keep (by go_cell) hb1
  have d1_c_2 : w1.cell? ⟨w.heap.size, 2, none⟩ = some (.int .i64 hi) := keep (by go_cell) hb1
  have d1_c_3 : w1.cell? ⟨w.heap.size, 3, none⟩ = some (.int .i64 d) := keep (by go_cell) hb1
  clear hb1
  go_wp2_with fail
  refine (C1.out _).mono ?_
  rintro e w2 ⟨⟨rfl, -⟩, hb2⟩
  have B2 : Below w.heap.size w w2 := bt (by (repeat' (first | (with_reducible exact Below.refl _ _) | (with_reducible assumption) | (with_reducible refine Below.alloc ?_ ?_ _) | (with_reducible refine Below.drew ?_) | (with_reducible refine below_dn ?_) | (with_reducible refine Below.setCell ?_ ?_ _) | (with_reducible exact Nat.le_refl _) | omega | (simp only [World.size_alloc, World.size_setCell, World.size_drew]; omega) | (simp; omega) | (simp; done)))) hb2
  have s2 : w.heap.size ≤ w2.heap.size := B2.size
  have z2_c : w.heap.size < w2.heap.size := by (have := hb2.size; (try simp at this); omega)
  have x2_c : w.heap.size ≤ w2.heap.size := Nat.le_of_lt z2_c
  have d2_c_0 : w2.cell? ⟨w.heap.size, 0, none⟩ = some (.int .i64 l) := keep (by go_cell) hb2
  have d2_c_1 : w2.cell? ⟨w.heap.size, 1, none⟩ = some (.int .i64 lo) := keep (by go_cell) hb2
  have d2_c_2 : w2.cell? ⟨w.heap.size, 2, none⟩ = some (.int .i64 hi) := keep (by go_cell) hb2
  have d2_c_3 : w2.cell? ⟨w.heap.size, 3, none⟩ = some (.int .i64 d) := keep (by go_cell) hb2
  clear hb2 d1_c_0 d1_c_1 d1_c_2 d1_c_3
  go_wp2
  have gc := grow_cell
  refine wp_region_quiet_below (by kernel_rfl) (by kernel_rfl) ?_
  repeat (quiet_step (first | (go_at_call 32; exact Calls.regrown_of ((C2.out _).mono fun _ _ h => ⟨h.1.1, h.2⟩)) | (go_at_call 33; exact Calls.regrown_of (C3.out _)) | (go_at_call 34; exact Calls.regrown_of (C4.out _))))
  refine wpQuiet_nil ?_
  intro w3 hw'
  obtain ⟨⟨dq, osq⟩, hw''⟩ := hw'
  have hb3 := below_of_grow hw''
  clear hw'' gc
  have B3 : Below w.heap.size w w3 := bt (by (repeat' (first | (with_reducible exact Below.refl _ _) | (with_reducible assumption) | (with_reducible refine Below.alloc ?_ ?_ _) | (with_reducible refine Below.drew ?_) | (with_reducible refine below_dn ?_) | (with_reducible refine Below.setCell ?_ ?_ _) | (with_reducible exact Nat.le_refl _) | omega | (simp only [World.size_alloc, World.size_setCell, World.size_drew]; omega) | (simp; omega) | (simp; done)))) hb3
  have s3 : w.heap.size ≤ w3.heap.size := B3.size
  have z3_c : w.heap.size < w3.heap.size := by (have := hb3.size; (try simp at this); omega)
  have x3_c : w.heap.size ≤ w3.heap.size := Nat.le_of_lt z3_c
  have d3_c_0 : w3.cell? ⟨w.heap.size, 0, none⟩ = some (.int .i64 l) := keep (by go_cell) hb3
  have d3_c_1 : w3.cell? ⟨w.heap.size, 1, none⟩ = some (.int .i64 lo) := keep (by go_cell) hb3
  have d3_c_2 : w3.cell? ⟨w.heap.size, 2, none⟩ = some (.int .i64 hi) := keep (by go_cell) hb3
  have d3_c_3 : w3.cell? ⟨w.heap.size, 3, none⟩ = some (.int .i64 d) := keep (by go_cell) hb3
  clear hb3 d2_c_0 d2_c_1 d2_c_2 d2_c_3
  go_wp2_with fail
  rw [MX.out]
  refine (C5.out _).mono ?_
  rintro e w4 ⟨rfl, hb4⟩
  have B4 : Below w.heap.size w w4 := bt (by (repeat' (first | (with_reducible exact Below.refl _ _) | (with_reducible assumption) | (with_reducible refine Below.alloc ?_ ?_ _) | (with_reducible refine Below.drew ?_) | (with_reducible refine below_dn ?_) | (with_reducible refine Below.setCell ?_ ?_ _) | (with_reducible exact Nat.le_refl _) | omega | (simp only [World.size_alloc, World.size_setCell, World.size_drew]; omega) | (simp; omega) | (simp; done)))) hb4
  have s4 : w.heap.size ≤ w4.heap.size := B4.size
  have z4_c : w.heap.size < w4.heap.size := by (have := hb4.size; (try simp at this); omega)
  have x4_c : w.heap.size ≤ w4.heap.size := Nat.le_of_lt z4_c
  have d4_c_0 : w4.cell? ⟨w.heap.size, 0, none⟩ = some (.int .i64 l) := keep (by go_cell) hb4
  have d4_c_1 : w4.cell? ⟨w.heap.size, 1, none⟩ = some (.int .i64 lo) := keep (by go_cell) hb4
  have d4_c_2 : w4.cell? ⟨w.heap.size, 2, none⟩ = some (.int .i64 hi) := keep (by go_cell) hb4
  have d4_c_3 : w4.cell? ⟨w.heap.size, 3, none⟩ = some (.int .i64 d) := keep (by go_cell) hb4
  clear hb4 d3_c_0 d3_c_1 d3_c_2 d3_c_3
  go_wp2_with fail
  refine (C6.out _).mono ?_
  rintro e w5 ⟨rfl, hb5⟩
  have B5 : Below w.heap.size w w5 := bt (by (repeat' (first | (with_reducible exact Below.refl _ _) | (with_reducible assumption) | (with_reducible refine Below.alloc ?_ ?_ _) | (with_reducible refine Below.drew ?_) | (with_reducible refine below_dn ?_) | (with_reducible refine Below.setCell ?_ ?_ _) | (with_reducible exact Nat.le_refl _) | omega | (simp only [World.size_alloc, World.size_setCell, World.size_drew]; omega) | (simp; omega) | (simp; done)))) hb5
  have s5 : w.heap.size ≤ w5.heap.size := B5.size
  have z5_c : w.heap.size < w5.heap.size := by (have := hb5.size; (try simp at this); omega)
  have x5_c : w.heap.size ≤ w5.heap.size := Nat.le_of_lt z5_c
  have d5_c_0 : w5.cell? ⟨w.heap.size, 0, none⟩ = some (.int .i64 l) := keep (by go_cell) hb5
  have d5_c_1 : w5.cell? ⟨w.heap.size, 1, none⟩ = some (.int .i64 lo) := keep (by go_cell) hb5
  have d5_c_2 : w5.cell? ⟨w.heap.size, 2, none⟩ = some (.int .i64 hi) := keep (by go_cell) hb5
  have d5_c_3 : w5.cell? ⟨w.heap.size, 3, none⟩ = some (.int .i64 d) := keep (by go_cell) hb5
  have z5_r : w4.heap.size < w5.heap.size := by (have := hb5.size; (try simp at this); omega)
  have x5_r : w4.heap.size ≤ w5.heap.size := Nat.le_of_lt z5_r
  have d5_r_0 : w5.cell? ⟨w4.heap.size, 0, none⟩ = some (.int .i64 S2) := keep (by go_cell) hb5
  have d5_r_1 : w5.cell? ⟨w4.heap.size, 1, none⟩ = some (.int .i64 S) := keep (by go_cell) hb5
  clear hb5 d4_c_0 d4_c_1 d4_c_2 d4_c_3
  go_wp2_with fail
  refine (before_any _ _ _ _).mono ?_
  rintro e w6 ⟨rfl, hb6⟩
  have B6 : Below w.heap.size w w6 := bt (by (repeat' (first | (with_reducible exact Below.refl _ _) | (with_reducible assumption) | (with_reducible refine Below.alloc ?_ ?_ _) | (with_reducible refine Below.drew ?_) | (with_reducible refine below_dn ?_) | (with_reducible refine Below.setCell ?_ ?_ _) | (with_reducible exact Nat.le_refl _) | omega | (simp only [World.size_alloc, World.size_setCell, World.size_drew]; omega) | (simp; omega) | (simp; done)))) hb6
  have s6 : w.heap.size ≤ w6.heap.size := B6.size
  have z6_c : w.heap.size < w6.heap.size := by (have := hb6.size; (try simp at this); omega)
  have x6_c : w.heap.size ≤ w6.heap.size := Nat.le_of_lt z6_c
  have d6_c_0 : w6.cell? ⟨w.heap.size, 0, none⟩ = some (.int .i64 l) := keep (by go_cell) hb6
  have d6_c_1 : w6.cell? ⟨w.heap.size, 1, none⟩ = some (.int .i64 lo) := keep (by go_cell) hb6
  have d6_c_2 : w6.cell? ⟨w.heap.size, 2, none⟩ = some (.int .i64 hi) := keep (by go_cell) hb6
  have d6_c_3 : w6.cell? ⟨w.heap.size, 3, none⟩ = some (.int .i64 d) := keep (by go_cell) hb6
  have z6_r : w4.heap.size < w6.heap.size := by (have := hb6.size; (try simp at this); omega)
  have x6_r : w4.heap.size ≤ w6.heap.size := Nat.le_of_lt z6_r
  have d6_r_0 : w6.cell? ⟨w4.heap.size, 0, none⟩ = some (.int .i64 S2) := keep (by go_cell) hb6
  have d6_r_1 : w6.cell? ⟨w4.heap.size, 1, none⟩ = some (.int .i64 S) := keep (by go_cell) hb6
  have z6_q : w5.heap.size < w6.heap.size := by (have := hb6.size; (try simp at this); omega)
  have x6_q : w5.heap.size ≤ w6.heap.size := Nat.le_of_lt z6_q
  have d6_q_0 : w6.cell? ⟨w5.heap.size, 0, none⟩ = some (.int .i64 R2) := keep (by go_cell) hb6
  have d6_q_1 : w6.cell? ⟨w5.heap.size, 1, none⟩ = some (.int .i64 R) := keep (by go_cell) hb6
  clear hb6 d5_c_0 d5_c_1 d5_c_2 d5_c_3 d5_r_0 d5_r_1
  go_wp2_with fail
  refine (HS.out _).mono ?_
  rintro e w7 ⟨rfl, hb7⟩
  have B7 : Below w.heap.size w w7 := bt (by (repeat' (first | (with_reducible exact Below.refl _ _) | (with_reducible assumption) | (with_reducible refine Below.alloc ?_ ?_ _) | (with_reducible refine Below.drew ?_) | (with_reducible refine below_dn ?_) | (with_reducible refine Below.setCell ?_ ?_ _) | (with_reducible exact Nat.le_refl _) | omega | (simp only [World.size_alloc, World.size_setCell, World.size_drew]; omega) | (simp; omega) | (simp; done)))) hb7
  have s7 : w.heap.size ≤ w7.heap.size := B7.size
  have z7_c : w.heap.size < w7.heap.size := by (have := hb7.size; (try simp at this); omega)
  have x7_c : w.heap.size ≤ w7.heap.size := Nat.le_of_lt z7_c
  have d7_c_0 : w7.cell? ⟨w.heap.size, 0, none⟩ = some (.int .i64 l) := keep (by go_cell) hb7
  have d7_c_1 : w7.cell? ⟨w.heap.size, 1, none⟩ = some (.int .i64 lo) := keep (by go_cell) hb7
  have d7_c_2 : w7.cell? ⟨w.heap.size, 2, none⟩ = some (.int .i64 hi) := keep (by go_cell) hb7
  have d7_c_3 : w7.cell? ⟨w.heap.size, 3, none⟩ = some (.int .i64 d) := keep (by go_cell) hb7
  have z7_r : w4.heap.size < w7.heap.size := by (have := hb7.size; (try simp at this); omega)
  have x7_r : w4.heap.size ≤ w7.heap.size := Nat.le_of_lt z7_r
  have d7_r_0 : w7.cell? ⟨w4.heap.size, 0, none⟩ = some (.int .i64 S2) := keep (by go_cell) hb7
  have d7_r_1 : w7.cell? ⟨w4.heap.size, 1, none⟩ = some (.int .i64 S) := keep (by go_cell) hb7
  have z7_q : w5.heap.size < w7.heap.size := by (have := hb7.size; (try simp at this); omega)
  have x7_q : w5.heap.size ≤ w7.heap.size := Nat.le_of_lt z7_q
  have d7_q_0 : w7.cell? ⟨w5.heap.size, 0, none⟩ = some (.int .i64 R2) := keep (by go_cell) hb7
  have d7_q_1 : w7.cell? ⟨w5.heap.size, 1, none⟩ = some (.int .i64 R) := keep (by go_cell) hb7
  clear hb7 d6_c_0 d6_c_1 d6_c_2 d6_c_3 d6_r_0 d6_r_1 d6_q_0 d6_q_1
  go_wp2_with fail
  refine (before_any _ _ _ _).mono ?_
  rintro e w8 ⟨rfl, hb8⟩
  have B8 : Below w.heap.size w w8 := bt (by (repeat' (first | (with_reducible exact Below.refl _ _) | (with_reducible assumption) | (with_reducible refine Below.alloc ?_ ?_ _) | (with_reducible refine Below.drew ?_) | (with_reducible refine below_dn ?_) | (with_reducible refine Below.setCell ?_ ?_ _) | (with_reducible exact Nat.le_refl _) | omega | (simp only [World.size_alloc, World.size_setCell, World.size_drew]; omega) | (simp; omega) | (simp; done)))) hb8
  have s8 : w.heap.size ≤ w8.heap.size := B8.size
  have z8_c : w.heap.size < w8.heap.size := by (have := hb8.size; (try simp at this); omega)
  have x8_c : w.heap.size ≤ w8.heap.size := Nat.le_of_lt z8_c
  have d8_c_0 : w8.cell? ⟨w.heap.size, 0, none⟩ = some (.int .i64 l) := keep (by go_cell) hb8
  have d8_c_1 : w8.cell? ⟨w.heap.size, 1, none⟩ = some (.int .i64 lo) := keep (by go_cell) hb8
  have d8_c_2 : w8.cell? ⟨w.heap.size, 2, none⟩ = some (.int .i64 hi) := keep (by go_cell) hb8
  have d8_c_3 : w8.cell? ⟨w.heap.size, 3, none⟩ = some (.int .i64 d) := keep (by go_cell) hb8
  have z8_r : w4.heap.size < w8.heap.size := by (have := hb8.size; (try simp at this); omega)
  have x8_r : w4.heap.size ≤ w8.heap.size := Nat.le_of_lt z8_r
  have d8_r_0 : w8.cell? ⟨w4.heap.size, 0, none⟩ = some (.int .i64 S2) := keep (by go_cell) hb8
  have d8_r_1 : w8.cell? ⟨w4.heap.size, 1, none⟩ = some (.int .i64 S) := keep (by go_cell) hb8
  have z8_q : w5.heap.size < w8.heap.size := by (have := hb8.size; (try simp at this); omega)
  have x8_q : w5.heap.size ≤ w8.heap.size := Nat.le_of_lt z8_q
  have d8_q_0 : w8.cell? ⟨w5.heap.size, 0, none⟩ = some (.int .i64 R2) := keep (by go_cell) hb8
  have d8_q_1 : w8.cell? ⟨w5.heap.size, 1, none⟩ = some (.int .i64 R) := keep (by go_cell) hb8
  clear hb8 d7_c_0 d7_c_1 d7_c_2 d7_c_3 d7_r_0 d7_r_1 d7_q_0 d7_q_1
  go_wp2
  all_goals
    go_ret
    exact ⟨ret_bool (by first | rfl | (apply decide_eq_true; omega) | (simp; omega)), by (repeat' (first | (with_reducible exact Below.refl _ _) | (with_reducible assumption) | (with_reducible refine Below.alloc ?_ ?_ _) | (with_reducible refine Below.drew ?_) | (with_reducible refine below_dn ?_) | (with_reducible refine Below.setCell ?_ ?_ _) | (with_reducible exact Nat.le_refl _) | omega | (simp only [World.size_alloc, World.size_setCell, World.size_drew]; omega) | (simp; omega) | (simp; done)))⟩
set_option maxHeartbeats 4000000 in
theorem lasts_end (l lo hi d x t : Int) (w : World) (hs : ∀ W, Sane W) (h : OkClk l lo hi d) (k : instB t = true) (n0 : l ≤ untilF l hi d t) (n1 : untilF l hi d t = 2199023255552) (n3 : rdHi hi d (untilF l hi d t - l) < t) :
    Calls Try.prog 5 #[clk l lo hi d, .int .i64 x, .int .i64 t] w fun e w' => e = .returned (.bool true) ∧ Below w.heap.size w w' := by
  have HS := Lib.hid hs; clear hs
  have H := Lib.hid h; clear h
  have T := Lib.hid k; clear k
  obtain ⟨u, hu⟩ : ∃ z, untilF l hi d t = z := ⟨_, rfl⟩
  obtain ⟨v, hv⟩ : ∃ z, wrth l hi d x t = z := ⟨_, rfl⟩
  have c1 := fun W : World => until_fn l lo hi d t W H.out
  have c2 := fun W : World => untilref_fn l lo hi d t W H.out
  have c3 := fun W : World => worth_fn l lo hi d x t W H.out
  have c4 := fun W : World => worthref_fn l lo hi d x t W H.out
  rw [hu] at c1 c2
  rw [hv] at c3 c4
  have C1 := Lib.hid c1; have C2 := Lib.hid c2; have C3 := Lib.hid c3; have C4 := Lib.hid c4
  clear c1 c2 c3 c4 hv
  have U := Lib.hid hu; clear hu
  rw [U.out] at n0 n1 n3
  have hl := H.out.1
  have hl2 := H.out.2.1
  obtain ⟨R, hR⟩ : ∃ z, rdHi hi d (u - l) = z := ⟨_, rfl⟩
  obtain ⟨R2, hR2⟩ : ∃ z, rdLo lo d (u - l) = z := ⟨_, rfl⟩
  have c6 := fun W : World => read_ok l lo hi d u W H.out (by omega) (by omega)
  rw [hR, hR2] at c6
  have C6 := Lib.hid c6
  have n7 : R < t := by rw [← hR]; exact n3
  clear c6 hR hR2
  subst n1
  have c5 := fun W : World => read_arg l lo hi d (2199023255552 + 1) W H.out (by omega)
  have C5 := Lib.hid c5
  have mx : max (2199023255553 : Int) l = 2199023255553 := by omega
  have MX := Lib.hid mx
  clear n3 c5 mx
  go_enter Try.func5, Try.ntmps5
  go_wp2_with fail
  refine (instant_any _ _).mono ?_
  rintro e w0 ⟨rfl, rfl⟩
  rw [T.out]
  go_wp2_with fail
  refine (checkref_yes _ _ _ _ _ H.out).mono ?_
  rintro e w1 ⟨rfl, hb1⟩
  have B1 : Below w.heap.size w w1 := bt (by (repeat' (first | (with_reducible exact Below.refl _ _) | (with_reducible assumption) | (with_reducible refine Below.alloc ?_ ?_ _) | (with_reducible refine Below.drew ?_) | (with_reducible refine below_dn ?_) | (with_reducible refine Below.setCell ?_ ?_ _) | (with_reducible exact Nat.le_refl _) | omega | (simp only [World.size_alloc, World.size_setCell, World.size_drew]; omega) | (simp; omega) | (simp; done)))) hb1
  have s1 : w.heap.size ≤ w1.heap.size := B1.size
  have z1_c : w.heap.size < w1.heap.size := by (have := hb1.size; (try simp at this); omega)
  have x1_c : w.heap.size ≤ w1.heap.size := Nat.le_of_lt z1_c
  have d1_c_0 : w1.cell? ⟨w.heap.size, 0, none⟩ = some (.int .i64 l) := keep (by go_cell) hb1
  have d1_c_1 : w1.cell? ⟨w.heap.size, 1, none⟩ = some (.int .i64 lo) := keep (by go_cell) hb1
  have d1_c_2 : w1.cell? ⟨w.heap.size, 2, none⟩ = some (.int .i64 hi) := keep (by go_cell) hb1
  have d1_c_3 : w1.cell? ⟨w.heap.size, 3, none⟩ = some (.int .i64 d) := keep (by go_cell) hb1
  clear hb1
  go_wp2_with fail
  refine (C1.out _).mono ?_
  rintro e w2 ⟨⟨rfl, -⟩, hb2⟩
  have B2 : Below w.heap.size w w2 := bt (by (repeat' (first | (with_reducible exact Below.refl _ _) | (with_reducible assumption) | (with_reducible refine Below.alloc ?_ ?_ _) | (with_reducible refine Below.drew ?_) | (with_reducible refine below_dn ?_) | (with_reducible refine Below.setCell ?_ ?_ _) | (with_reducible exact Nat.le_refl _) | omega | (simp only [World.size_alloc, World.size_setCell, World.size_drew]; omega) | (simp; omega) | (simp; done)))) hb2
  have s2 : w.heap.size ≤ w2.heap.size := B2.size
  have z2_c : w.heap.size < w2.heap.size := by (have := hb2.size; (try simp at this); omega)
  have x2_c : w.heap.size ≤ w2.heap.size := Nat.le_of_lt z2_c
  have d2_c_0 : w2.cell? ⟨w.heap.size, 0, none⟩ = some (.int .i64 l) := keep (by go_cell) hb2
  have d2_c_1 : w2.cell? ⟨w.heap.size, 1, none⟩ = some (.int .i64 lo) := keep (by go_cell) hb2
  have d2_c_2 : w2.cell? ⟨w.heap.size, 2, none⟩ = some (.int .i64 hi) := keep (by go_cell) hb2
  have d2_c_3 : w2.cell? ⟨w.heap.size, 3, none⟩ = some (.int .i64 d) := keep (by go_cell) hb2
  clear hb2 d1_c_0 d1_c_1 d1_c_2 d1_c_3
  go_wp2
  have gc := grow_cell
  refine wp_region_quiet_below (by kernel_rfl) (by kernel_rfl) ?_
  repeat (quiet_step (first | (go_at_call 32; exact Calls.regrown_of ((C2.out _).mono fun _ _ h => ⟨h.1.1, h.2⟩)) | (go_at_call 33; exact Calls.regrown_of (C3.out _)) | (go_at_call 34; exact Calls.regrown_of (C4.out _))))
  refine wpQuiet_nil ?_
  intro w3 hw'
  obtain ⟨⟨dq, osq⟩, hw''⟩ := hw'
  have hb3 := below_of_grow hw''
  clear hw'' gc
  have B3 : Below w.heap.size w w3 := bt (by (repeat' (first | (with_reducible exact Below.refl _ _) | (with_reducible assumption) | (with_reducible refine Below.alloc ?_ ?_ _) | (with_reducible refine Below.drew ?_) | (with_reducible refine below_dn ?_) | (with_reducible refine Below.setCell ?_ ?_ _) | (with_reducible exact Nat.le_refl _) | omega | (simp only [World.size_alloc, World.size_setCell, World.size_drew]; omega) | (simp; omega) | (simp; done)))) hb3
  have s3 : w.heap.size ≤ w3.heap.size := B3.size
  have z3_c : w.heap.size < w3.heap.size := by (have := hb3.size; (try simp at this); omega)
  have x3_c : w.heap.size ≤ w3.heap.size := Nat.le_of_lt z3_c
  have d3_c_0 : w3.cell? ⟨w.heap.size, 0, none⟩ = some (.int .i64 l) := keep (by go_cell) hb3
  have d3_c_1 : w3.cell? ⟨w.heap.size, 1, none⟩ = some (.int .i64 lo) := keep (by go_cell) hb3
  have d3_c_2 : w3.cell? ⟨w.heap.size, 2, none⟩ = some (.int .i64 hi) := keep (by go_cell) hb3
  have d3_c_3 : w3.cell? ⟨w.heap.size, 3, none⟩ = some (.int .i64 d) := keep (by go_cell) hb3
  clear hb3 d2_c_0 d2_c_1 d2_c_2 d2_c_3
  go_wp2_with fail
  rw [MX.out]
  refine (C5.out _).mono ?_
  rintro e w4 ⟨rfl, hb4⟩
  have B4 : Below w.heap.size w w4 := bt (by (repeat' (first | (with_reducible exact Below.refl _ _) | (with_reducible assumption) | (with_reducible refine Below.alloc ?_ ?_ _) | (with_reducible refine Below.drew ?_) | (with_reducible refine below_dn ?_) | (with_reducible refine Below.setCell ?_ ?_ _) | (with_reducible exact Nat.le_refl _) | omega | (simp only [World.size_alloc, World.size_setCell, World.size_drew]; omega) | (simp; omega) | (simp; done)))) hb4
  have s4 : w.heap.size ≤ w4.heap.size := B4.size
  have z4_c : w.heap.size < w4.heap.size := by (have := hb4.size; (try simp at this); omega)
  have x4_c : w.heap.size ≤ w4.heap.size := Nat.le_of_lt z4_c
  have d4_c_0 : w4.cell? ⟨w.heap.size, 0, none⟩ = some (.int .i64 l) := keep (by go_cell) hb4
  have d4_c_1 : w4.cell? ⟨w.heap.size, 1, none⟩ = some (.int .i64 lo) := keep (by go_cell) hb4
  have d4_c_2 : w4.cell? ⟨w.heap.size, 2, none⟩ = some (.int .i64 hi) := keep (by go_cell) hb4
  have d4_c_3 : w4.cell? ⟨w.heap.size, 3, none⟩ = some (.int .i64 d) := keep (by go_cell) hb4
  clear hb4 d3_c_0 d3_c_1 d3_c_2 d3_c_3
  go_wp2_with fail
  refine (C6.out _).mono ?_
  rintro e w5 ⟨rfl, hb5⟩
  have B5 : Below w.heap.size w w5 := bt (by (repeat' (first | (with_reducible exact Below.refl _ _) | (with_reducible assumption) | (with_reducible refine Below.alloc ?_ ?_ _) | (with_reducible refine Below.drew ?_) | (with_reducible refine below_dn ?_) | (with_reducible refine Below.setCell ?_ ?_ _) | (with_reducible exact Nat.le_refl _) | omega | (simp only [World.size_alloc, World.size_setCell, World.size_drew]; omega) | (simp; omega) | (simp; done)))) hb5
  have s5 : w.heap.size ≤ w5.heap.size := B5.size
  have z5_c : w.heap.size < w5.heap.size := by (have := hb5.size; (try simp at this); omega)
  have x5_c : w.heap.size ≤ w5.heap.size := Nat.le_of_lt z5_c
  have d5_c_0 : w5.cell? ⟨w.heap.size, 0, none⟩ = some (.int .i64 l) := keep (by go_cell) hb5
  have d5_c_1 : w5.cell? ⟨w.heap.size, 1, none⟩ = some (.int .i64 lo) := keep (by go_cell) hb5
  have d5_c_2 : w5.cell? ⟨w.heap.size, 2, none⟩ = some (.int .i64 hi) := keep (by go_cell) hb5
  have d5_c_3 : w5.cell? ⟨w.heap.size, 3, none⟩ = some (.int .i64 d) := keep (by go_cell) hb5
  have z5_r : w4.heap.size < w5.heap.size := by (have := hb5.size; (try simp at this); omega)
  have x5_r : w4.heap.size ≤ w5.heap.size := Nat.le_of_lt z5_r
  have d5_r_0 : w5.cell? ⟨w4.heap.size, 0, none⟩ = some (.int .i64 0) := keep (by go_cell) hb5
  have d5_r_1 : w5.cell? ⟨w4.heap.size, 1, none⟩ = some (.int .i64 0) := keep (by go_cell) hb5
  clear hb5 d4_c_0 d4_c_1 d4_c_2 d4_c_3
  go_wp2_with fail
  refine (before_any _ _ _ _).mono ?_
  rintro e w6 ⟨rfl, hb6⟩
  have B6 : Below w.heap.size w w6 := bt (by (repeat' (first | (with_reducible exact Below.refl _ _) | (with_reducible assumption) | (with_reducible refine Below.alloc ?_ ?_ _) | (with_reducible refine Below.drew ?_) | (with_reducible refine below_dn ?_) | (with_reducible refine Below.setCell ?_ ?_ _) | (with_reducible exact Nat.le_refl _) | omega | (simp only [World.size_alloc, World.size_setCell, World.size_drew]; omega) | (simp; omega) | (simp; done)))) hb6
  have s6 : w.heap.size ≤ w6.heap.size := B6.size
  have z6_c : w.heap.size < w6.heap.size := by (have := hb6.size; (try simp at this); omega)
  have x6_c : w.heap.size ≤ w6.heap.size := Nat.le_of_lt z6_c
  have d6_c_0 : w6.cell? ⟨w.heap.size, 0, none⟩ = some (.int .i64 l) := keep (by go_cell) hb6
  have d6_c_1 : w6.cell? ⟨w.heap.size, 1, none⟩ = some (.int .i64 lo) := keep (by go_cell) hb6
  have d6_c_2 : w6.cell? ⟨w.heap.size, 2, none⟩ = some (.int .i64 hi) := keep (by go_cell) hb6
  have d6_c_3 : w6.cell? ⟨w.heap.size, 3, none⟩ = some (.int .i64 d) := keep (by go_cell) hb6
  have z6_r : w4.heap.size < w6.heap.size := by (have := hb6.size; (try simp at this); omega)
  have x6_r : w4.heap.size ≤ w6.heap.size := Nat.le_of_lt z6_r
  have d6_r_0 : w6.cell? ⟨w4.heap.size, 0, none⟩ = some (.int .i64 0) := keep (by go_cell) hb6
  have d6_r_1 : w6.cell? ⟨w4.heap.size, 1, none⟩ = some (.int .i64 0) := keep (by go_cell) hb6
  have z6_q : w5.heap.size < w6.heap.size := by (have := hb6.size; (try simp at this); omega)
  have x6_q : w5.heap.size ≤ w6.heap.size := Nat.le_of_lt z6_q
  have d6_q_0 : w6.cell? ⟨w5.heap.size, 0, none⟩ = some (.int .i64 R2) := keep (by go_cell) hb6
  have d6_q_1 : w6.cell? ⟨w5.heap.size, 1, none⟩ = some (.int .i64 R) := keep (by go_cell) hb6
  clear hb6 d5_c_0 d5_c_1 d5_c_2 d5_c_3 d5_r_0 d5_r_1
  go_wp2_with fail
  refine (HS.out _).mono ?_
  rintro e w7 ⟨rfl, hb7⟩
  have B7 : Below w.heap.size w w7 := bt (by (repeat' (first | (with_reducible exact Below.refl _ _) | (with_reducible assumption) | (with_reducible refine Below.alloc ?_ ?_ _) | (with_reducible refine Below.drew ?_) | (with_reducible refine below_dn ?_) | (with_reducible refine Below.setCell ?_ ?_ _) | (with_reducible exact Nat.le_refl _) | omega | (simp only [World.size_alloc, World.size_setCell, World.size_drew]; omega) | (simp; omega) | (simp; done)))) hb7
  have s7 : w.heap.size ≤ w7.heap.size := B7.size
  have z7_c : w.heap.size < w7.heap.size := by (have := hb7.size; (try simp at this); omega)
  have x7_c : w.heap.size ≤ w7.heap.size := Nat.le_of_lt z7_c
  have d7_c_0 : w7.cell? ⟨w.heap.size, 0, none⟩ = some (.int .i64 l) := keep (by go_cell) hb7
  have d7_c_1 : w7.cell? ⟨w.heap.size, 1, none⟩ = some (.int .i64 lo) := keep (by go_cell) hb7
  have d7_c_2 : w7.cell? ⟨w.heap.size, 2, none⟩ = some (.int .i64 hi) := keep (by go_cell) hb7
  have d7_c_3 : w7.cell? ⟨w.heap.size, 3, none⟩ = some (.int .i64 d) := keep (by go_cell) hb7
  have z7_r : w4.heap.size < w7.heap.size := by (have := hb7.size; (try simp at this); omega)
  have x7_r : w4.heap.size ≤ w7.heap.size := Nat.le_of_lt z7_r
  have d7_r_0 : w7.cell? ⟨w4.heap.size, 0, none⟩ = some (.int .i64 0) := keep (by go_cell) hb7
  have d7_r_1 : w7.cell? ⟨w4.heap.size, 1, none⟩ = some (.int .i64 0) := keep (by go_cell) hb7
  have z7_q : w5.heap.size < w7.heap.size := by (have := hb7.size; (try simp at this); omega)
  have x7_q : w5.heap.size ≤ w7.heap.size := Nat.le_of_lt z7_q
  have d7_q_0 : w7.cell? ⟨w5.heap.size, 0, none⟩ = some (.int .i64 R2) := keep (by go_cell) hb7
  have d7_q_1 : w7.cell? ⟨w5.heap.size, 1, none⟩ = some (.int .i64 R) := keep (by go_cell) hb7
  clear hb7 d6_c_0 d6_c_1 d6_c_2 d6_c_3 d6_r_0 d6_r_1 d6_q_0 d6_q_1
  go_wp2
  all_goals
    go_ret
    exact ⟨ret_bool (by first | rfl | (apply decide_eq_true; omega) | (simp; omega)), by (repeat' (first | (with_reducible exact Below.refl _ _) | (with_reducible assumption) | (with_reducible refine Below.alloc ?_ ?_ _) | (with_reducible refine Below.drew ?_) | (with_reducible refine below_dn ?_) | (with_reducible refine Below.setCell ?_ ?_ _) | (with_reducible exact Nat.le_refl _) | omega | (simp only [World.size_alloc, World.size_setCell, World.size_drew]; omega) | (simp; omega) | (simp; done)))⟩
theorem until_down (l hi d t : Int) (h7 : d ≤ 100000) : ∀ n : Nat, ∀ x, l ≤ x → x ≤ 2199023255552 → x - l = n → (x < 2199023255552 → t ≤ rdHi hi d (x + 1 - l)) → ∃ u, UntilIs l hi d t u
  | 0, x, h1, h2, hn, hx => by
    by_cases c : rdHi hi d (x - l) < t
    · exact ⟨x, Or.inr ⟨h1, h2, c, hx⟩⟩
    · exact ⟨-1, Or.inl ⟨rfl, fun y y1 y2 => by have := rdHi_mono hi d (x - l) (y - l) h7 (by omega); omega⟩⟩
  | n + 1, x, h1, h2, hn, hx => by
    by_cases c : rdHi hi d (x - l) < t
    · exact ⟨x, Or.inr ⟨h1, h2, c, hx⟩⟩
    · exact until_down l hi d t h7 n (x - 1) (by omega) (by omega) (by omega) (fun _ => by rw [show x - 1 + 1 - l = x - l by omega]; omega)
theorem until_exists (l lo hi d t : Int) (h : OkClk l lo hi d) : ∃ u, UntilIs l hi d t u := by
  obtain ⟨h1, h2, h3, h4, h5, h6, h7⟩ := h
  exact until_down l hi d t h7 (2199023255552 - l).toNat 2199023255552 h2 (by omega) (by omega) (fun h => absurd h (by omega))
theorem until_is (l lo hi d t : Int) (W : World) (h : OkClk l lo hi d) : UntilIs l hi d t (untilF l hi d t) := by
  obtain ⟨u, hu⟩ := until_exists l lo hi d t h
  exact untilF_is hu
theorem lastsAsSpecified (l lo hi d x t : Int) (w : World) (hs : ∀ W, Sane W) :
    Calls Try.prog 5 #[clk l lo hi d, .int .i64 x, .int .i64 t] w fun e w' => e = .returned (.bool true) ∧ Below w.heap.size w w' := by
  by_cases h : chkB l lo hi d = true
  · by_cases k : instB t = true
    · have ok := chk_iff.1 h
      rcases until_is l lo hi d t w ok with ⟨u1, u2⟩ | ⟨u1, u2, u3, u4⟩
      · exact lasts_none _ _ _ _ _ _ _ hs ok k u1 (u2 l (by omega) ok.2.1)
      · by_cases z : untilF l hi d t < 2199023255552
        · exact lasts_some _ _ _ _ _ _ _ hs ok k u1 z u3 (u4 z)
        · exact lasts_end _ _ _ _ _ _ _ hs ok k u1 (by omega) u3
    · exact lasts_time _ _ _ _ _ _ _ hs (chk_iff.1 h) (by simpa using k)
  · exact lasts_bad _ _ _ _ _ _ _ hs (by simpa using h)
end Go.Proofs.Ytnojnfmhinjcpaa
