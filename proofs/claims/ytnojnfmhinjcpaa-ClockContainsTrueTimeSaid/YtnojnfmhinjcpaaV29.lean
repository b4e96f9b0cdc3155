import Derived.Test.YtnojnfmhinjcpaaU
import Derived.Test.YtnojnfmhinjcpaaF
namespace Go.Proofs.Ytnojnfmhinjcpaa
set_option linter.unusedVariables false
set_option linter.unusedSimpArgs false
open Go.RowKit Go.Sort
abbrev synd (l lo hi d e : Int) : Value := .agg #[.int .i64 l, .int .i64 lo, .int .i64 hi, .int .i64 d, .int .i64 e]
theorem valid_nor {a b : Int} (h : validB a b = false) : ¬ (0 ≤ a ∧ a ≤ b ∧ b ≤ 1099511627776) := by simpa [validB] using h
theorem valid_yesr {a b : Int} (h : 0 ≤ a ∧ a ≤ b ∧ b ≤ 1099511627776) : validB a b = true := by simpa [validB] using h
set_option maxHeartbeats 400000 in
theorem syncref_bad (l lo hi d x a b : Int) (w : World) (h : validB a b = false) :
    Calls Try.prog 29 #[clk l lo hi d, .int .i64 x, per a b] w fun e w' => e = .returned (synd 0 0 0 0 1) ∧ Below w.heap.size w w' := by
  have H := Lib.hid h; clear h
  go_enter Try.func29, Try.ntmps29
  go_wp2_with fail
  refine (valid_ref _ _ _).mono ?_
  rintro e w1 ⟨rfl, hb1⟩
  rw [H.out]
  have B1 : Below w.heap.size w w1 := bt (by (repeat' (first | (with_reducible exact Below.refl _ _) | (with_reducible assumption) | (with_reducible refine Below.alloc ?_ ?_ _) | (with_reducible refine Below.drew ?_) | (with_reducible refine below_dn ?_) | (with_reducible refine Below.setCell ?_ ?_ _) | (with_reducible exact Nat.le_refl _) | omega | (simp only [World.size_alloc, World.size_setCell, World.size_drew]; omega) | (simp; omega) | (simp; done)))) hb1
  obtain ⟨hc1, hf1⟩ := bcell hb1
  have z1_0 : w.heap.size < w1.heap.size := by (have := hb1.size; (try simp at this); omega)
  have z1_1 : w.heap.size + 1 < w1.heap.size := by (have := hb1.size; (try simp at this); omega)
  have z1_2 : w.heap.size + 1 + 1 < w1.heap.size := by (have := hb1.size; (try simp at this); omega)
  go_wp2
  refine bodyPost_ret (v := synd 0 0 0 0 1) (by simp [results, Try.results29, go_sem, hc1, z1_0, z1_1, z1_2]) rfl ⟨rfl, by (repeat' (first | (with_reducible exact Below.refl _ _) | (with_reducible assumption) | (with_reducible refine Below.alloc ?_ ?_ _) | (with_reducible refine Below.drew ?_) | (with_reducible refine below_dn ?_) | (with_reducible refine Below.setCell ?_ ?_ _) | (with_reducible exact Nat.le_refl _) | omega | (simp only [World.size_alloc, World.size_setCell, World.size_drew]; omega) | (simp; omega) | (simp; done)))⟩
set_option maxHeartbeats 400000 in
theorem syncref_arg (l lo hi d x a b : Int) (w : World) (h : OkClk l lo hi d) (k : 0 ≤ a ∧ a ≤ b ∧ b ≤ 1099511627776) (hx : x < 0 ∨ 2199023255552 < x) :
    Calls Try.prog 29 #[clk l lo hi d, .int .i64 x, per a b] w fun e w' => e = .returned (synd 0 0 0 0 1) ∧ Below w.heap.size w w' := by
  have H := Lib.hid h
  have V := Lib.hid (valid_yesr k)
  have X := Lib.hid hx; clear hx
  obtain ⟨h1, h2, h3, h4, h5, h6, h7⟩ := h
  obtain ⟨k1, k2, k3⟩ := k
  go_enter Try.func29, Try.ntmps29
  go_wp2_with fail
  refine (valid_ref _ _ _).mono ?_
  rintro e w1 ⟨rfl, hb1⟩
  rw [V.out]
  have B1 : Below w.heap.size w w1 := bt (by (repeat' (first | (with_reducible exact Below.refl _ _) | (with_reducible assumption) | (with_reducible refine Below.alloc ?_ ?_ _) | (with_reducible refine Below.drew ?_) | (with_reducible refine below_dn ?_) | (with_reducible refine Below.setCell ?_ ?_ _) | (with_reducible exact Nat.le_refl _) | omega | (simp only [World.size_alloc, World.size_setCell, World.size_drew]; omega) | (simp; omega) | (simp; done)))) hb1
  obtain ⟨hc1, hf1⟩ := bcell hb1
  have z1_0 : w.heap.size < w1.heap.size := by (have := hb1.size; (try simp at this); omega)
  have z1_1 : w.heap.size + 1 < w1.heap.size := by (have := hb1.size; (try simp at this); omega)
  have z1_2 : w.heap.size + 1 + 1 < w1.heap.size := by (have := hb1.size; (try simp at this); omega)
  go_wp2_with fail
  refine (readref_arg l lo hi d x _ X.out).mono ?_
  rintro e w2 ⟨rfl, hb2⟩
  have B2 : Below w.heap.size w w2 := bt (by (repeat' (first | (with_reducible exact Below.refl _ _) | (with_reducible assumption) | (with_reducible refine Below.alloc ?_ ?_ _) | (with_reducible refine Below.drew ?_) | (with_reducible refine below_dn ?_) | (with_reducible refine Below.setCell ?_ ?_ _) | (with_reducible exact Nat.le_refl _) | omega | (simp only [World.size_alloc, World.size_setCell, World.size_drew]; omega) | (simp; omega) | (simp; done)))) hb2
  obtain ⟨hc2, hf2⟩ := bcell hb2
  have z2_0 : w.heap.size < w2.heap.size := by (have := hb2.size; (try simp at this); omega)
  have z2_1 : w.heap.size + 1 < w2.heap.size := by (have := hb2.size; (try simp at this); omega)
  have z2_2 : w.heap.size + 1 + 1 < w2.heap.size := by (have := hb2.size; (try simp at this); omega)
  go_wp2
  refine bodyPost_ret (v := synd 0 0 0 0 1) (by simp [results, Try.results29, go_sem, hc1, hc2, z1_0, z1_1, z1_2, z2_0, z2_1, z2_2]) rfl ⟨rfl, by (repeat' (first | (with_reducible exact Below.refl _ _) | (with_reducible assumption) | (with_reducible refine Below.alloc ?_ ?_ _) | (with_reducible refine Below.drew ?_) | (with_reducible refine below_dn ?_) | (with_reducible refine Below.setCell ?_ ?_ _) | (with_reducible exact Nat.le_refl _) | omega | (simp only [World.size_alloc, World.size_setCell, World.size_drew]; omega) | (simp; omega) | (simp; done)))⟩
set_option maxHeartbeats 400000 in
theorem syncref_time (l lo hi d x a b : Int) (w : World) (h : OkClk l lo hi d) (k : 0 ≤ a ∧ a ≤ b ∧ b ≤ 1099511627776) (hx : 0 ≤ x) (hx2 : x ≤ 2199023255552) (hn : x < l) :
    Calls Try.prog 29 #[clk l lo hi d, .int .i64 x, per a b] w fun e w' => e = .returned (synd 0 0 0 0 9) ∧ Below w.heap.size w w' := by
  have H := Lib.hid h
  have V := Lib.hid (valid_yesr k)
  obtain ⟨h1, h2, h3, h4, h5, h6, h7⟩ := h
  obtain ⟨k1, k2, k3⟩ := k
  go_enter Try.func29, Try.ntmps29
  go_wp2_with fail
  refine (valid_ref _ _ _).mono ?_
  rintro e w1 ⟨rfl, hb1⟩
  rw [V.out]
  have B1 : Below w.heap.size w w1 := bt (by (repeat' (first | (with_reducible exact Below.refl _ _) | (with_reducible assumption) | (with_reducible refine Below.alloc ?_ ?_ _) | (with_reducible refine Below.drew ?_) | (with_reducible refine below_dn ?_) | (with_reducible refine Below.setCell ?_ ?_ _) | (with_reducible exact Nat.le_refl _) | omega | (simp only [World.size_alloc, World.size_setCell, World.size_drew]; omega) | (simp; omega) | (simp; done)))) hb1
  obtain ⟨hc1, hf1⟩ := bcell hb1
  have z1_0 : w.heap.size < w1.heap.size := by (have := hb1.size; (try simp at this); omega)
  have z1_1 : w.heap.size + 1 < w1.heap.size := by (have := hb1.size; (try simp at this); omega)
  have z1_2 : w.heap.size + 1 + 1 < w1.heap.size := by (have := hb1.size; (try simp at this); omega)
  go_wp2_with fail
  refine (readref_time l lo hi d x _ h1 h2 hx hx2 hn).mono ?_
  rintro e w2 ⟨rfl, hb2⟩
  have B2 : Below w.heap.size w w2 := bt (by (repeat' (first | (with_reducible exact Below.refl _ _) | (with_reducible assumption) | (with_reducible refine Below.alloc ?_ ?_ _) | (with_reducible refine Below.drew ?_) | (with_reducible refine below_dn ?_) | (with_reducible refine Below.setCell ?_ ?_ _) | (with_reducible exact Nat.le_refl _) | omega | (simp only [World.size_alloc, World.size_setCell, World.size_drew]; omega) | (simp; omega) | (simp; done)))) hb2
  obtain ⟨hc2, hf2⟩ := bcell hb2
  have z2_0 : w.heap.size < w2.heap.size := by (have := hb2.size; (try simp at this); omega)
  have z2_1 : w.heap.size + 1 < w2.heap.size := by (have := hb2.size; (try simp at this); omega)
  have z2_2 : w.heap.size + 1 + 1 < w2.heap.size := by (have := hb2.size; (try simp at this); omega)
  go_wp2
  refine bodyPost_ret (v := synd 0 0 0 0 9) (by simp [results, Try.results29, go_sem, hc1, hc2, z1_0, z1_1, z1_2, z2_0, z2_1, z2_2]) rfl ⟨rfl, by (repeat' (first | (with_reducible exact Below.refl _ _) | (with_reducible assumption) | (with_reducible refine Below.alloc ?_ ?_ _) | (with_reducible refine Below.drew ?_) | (with_reducible refine below_dn ?_) | (with_reducible refine Below.setCell ?_ ?_ _) | (with_reducible exact Nat.le_refl _) | omega | (simp only [World.size_alloc, World.size_setCell, World.size_drew]; omega) | (simp; omega) | (simp; done)))⟩
set_option maxHeartbeats 400000 in
theorem syncref_no (l lo hi d x a b : Int) (w : World) (h : OkClk l lo hi d) (k : 0 ≤ a ∧ a ≤ b ∧ b ≤ 1099511627776) (hx2 : x ≤ 2199023255552) (hn : l ≤ x) (hm : min (rdHi hi d (x - l)) b < max (rdLo lo d (x - l)) a) :
    Calls Try.prog 29 #[clk l lo hi d, .int .i64 x, per a b] w fun e w' => e = .returned (synd 0 0 0 0 9) ∧ Below w.heap.size w w' := by
  have H := Lib.hid h
  have V := Lib.hid (valid_yesr k)
  obtain ⟨h1, h2, h3, h4, h5, h6, h7⟩ := h
  obtain ⟨k1, k2, k3⟩ := k
  go_enter Try.func29, Try.ntmps29
  go_wp2_with fail
  refine (valid_ref _ _ _).mono ?_
  rintro e w1 ⟨rfl, hb1⟩
  rw [V.out]
  have B1 : Below w.heap.size w w1 := bt (by (repeat' (first | (with_reducible exact Below.refl _ _) | (with_reducible assumption) | (with_reducible refine Below.alloc ?_ ?_ _) | (with_reducible refine Below.drew ?_) | (with_reducible refine below_dn ?_) | (with_reducible refine Below.setCell ?_ ?_ _) | (with_reducible exact Nat.le_refl _) | omega | (simp only [World.size_alloc, World.size_setCell, World.size_drew]; omega) | (simp; omega) | (simp; done)))) hb1
  obtain ⟨hc1, hf1⟩ := bcell hb1
  have z1_0 : w.heap.size < w1.heap.size := by (have := hb1.size; (try simp at this); omega)
  have z1_1 : w.heap.size + 1 < w1.heap.size := by (have := hb1.size; (try simp at this); omega)
  have z1_2 : w.heap.size + 1 + 1 < w1.heap.size := by (have := hb1.size; (try simp at this); omega)
  go_wp2_with fail
  refine (readref_ok l lo hi d x _ h1 h2 h3 h4 h5 h6 h7 hx2 hn).mono ?_
  rintro e w2 ⟨rfl, hb2⟩
  have B2 : Below w.heap.size w w2 := bt (by (repeat' (first | (with_reducible exact Below.refl _ _) | (with_reducible assumption) | (with_reducible refine Below.alloc ?_ ?_ _) | (with_reducible refine Below.drew ?_) | (with_reducible refine below_dn ?_) | (with_reducible refine Below.setCell ?_ ?_ _) | (with_reducible exact Nat.le_refl _) | omega | (simp only [World.size_alloc, World.size_setCell, World.size_drew]; omega) | (simp; omega) | (simp; done)))) hb2
  obtain ⟨hc2, hf2⟩ := bcell hb2
  have z2_0 : w.heap.size < w2.heap.size := by (have := hb2.size; (try simp at this); omega)
  have z2_1 : w.heap.size + 1 < w2.heap.size := by (have := hb2.size; (try simp at this); omega)
  have z2_2 : w.heap.size + 1 + 1 < w2.heap.size := by (have := hb2.size; (try simp at this); omega)
  go_wp2_with fail
  refine (meetref_no _ _ _ _ _ hm).mono ?_
  rintro e w3 ⟨rfl, hb3⟩
  have B3 : Below w.heap.size w w3 := bt (by (repeat' (first | (with_reducible exact Below.refl _ _) | (with_reducible assumption) | (with_reducible refine Below.alloc ?_ ?_ _) | (with_reducible refine Below.drew ?_) | (with_reducible refine below_dn ?_) | (with_reducible refine Below.setCell ?_ ?_ _) | (with_reducible exact Nat.le_refl _) | omega | (simp only [World.size_alloc, World.size_setCell, World.size_drew]; omega) | (simp; omega) | (simp; done)))) hb3
  obtain ⟨hc3, hf3⟩ := bcell hb3
  have z3_0 : w.heap.size < w3.heap.size := by (have := hb3.size; (try simp at this); omega)
  have z3_1 : w.heap.size + 1 < w3.heap.size := by (have := hb3.size; (try simp at this); omega)
  have z3_2 : w.heap.size + 1 + 1 < w3.heap.size := by (have := hb3.size; (try simp at this); omega)
  have z3_3 : w2.heap.size < w3.heap.size := by (have := hb3.size; (try simp at this); omega)
  go_wp2
  refine bodyPost_ret (v := synd 0 0 0 0 9) (by simp [results, Try.results29, go_sem, hc1, hc2, hc3, z1_0, z1_1, z1_2, z2_0, z2_1, z2_2, z3_0, z3_1, z3_2]) rfl ⟨rfl, by (repeat' (first | (with_reducible exact Below.refl _ _) | (with_reducible assumption) | (with_reducible refine Below.alloc ?_ ?_ _) | (with_reducible refine Below.drew ?_) | (with_reducible refine below_dn ?_) | (with_reducible refine Below.setCell ?_ ?_ _) | (with_reducible exact Nat.le_refl _) | omega | (simp only [World.size_alloc, World.size_setCell, World.size_drew]; omega) | (simp; omega) | (simp; done)))⟩
set_option maxHeartbeats 400000 in
theorem syncref_ok (l lo hi d x a b : Int) (w : World) (h : OkClk l lo hi d) (k : 0 ≤ a ∧ a ≤ b ∧ b ≤ 1099511627776) (hx2 : x ≤ 2199023255552) (hn : l ≤ x) (hm : max (rdLo lo d (x - l)) a ≤ min (rdHi hi d (x - l)) b) :
    Calls Try.prog 29 #[clk l lo hi d, .int .i64 x, per a b] w fun e w' => e = .returned (synd x (max (rdLo lo d (x - l)) a) (min (rdHi hi d (x - l)) b) d 0) ∧ Below w.heap.size w w' := by
  have H := Lib.hid h
  have V := Lib.hid (valid_yesr k)
  obtain ⟨h1, h2, h3, h4, h5, h6, h7⟩ := h
  obtain ⟨k1, k2, k3⟩ := k
  go_enter Try.func29, Try.ntmps29
  go_wp2_with fail
  refine (valid_ref _ _ _).mono ?_
  rintro e w1 ⟨rfl, hb1⟩
  rw [V.out]
  have B1 : Below w.heap.size w w1 := bt (by (repeat' (first | (with_reducible exact Below.refl _ _) | (with_reducible assumption) | (with_reducible refine Below.alloc ?_ ?_ _) | (with_reducible refine Below.drew ?_) | (with_reducible refine below_dn ?_) | (with_reducible refine Below.setCell ?_ ?_ _) | (with_reducible exact Nat.le_refl _) | omega | (simp only [World.size_alloc, World.size_setCell, World.size_drew]; omega) | (simp; omega) | (simp; done)))) hb1
  obtain ⟨hc1, hf1⟩ := bcell hb1
  have z1_0 : w.heap.size < w1.heap.size := by (have := hb1.size; (try simp at this); omega)
  have z1_1 : w.heap.size + 1 < w1.heap.size := by (have := hb1.size; (try simp at this); omega)
  have z1_2 : w.heap.size + 1 + 1 < w1.heap.size := by (have := hb1.size; (try simp at this); omega)
  go_wp2_with fail
  refine (readref_ok l lo hi d x _ h1 h2 h3 h4 h5 h6 h7 hx2 hn).mono ?_
  rintro e w2 ⟨rfl, hb2⟩
  have B2 : Below w.heap.size w w2 := bt (by (repeat' (first | (with_reducible exact Below.refl _ _) | (with_reducible assumption) | (with_reducible refine Below.alloc ?_ ?_ _) | (with_reducible refine Below.drew ?_) | (with_reducible refine below_dn ?_) | (with_reducible refine Below.setCell ?_ ?_ _) | (with_reducible exact Nat.le_refl _) | omega | (simp only [World.size_alloc, World.size_setCell, World.size_drew]; omega) | (simp; omega) | (simp; done)))) hb2
  obtain ⟨hc2, hf2⟩ := bcell hb2
  have z2_0 : w.heap.size < w2.heap.size := by (have := hb2.size; (try simp at this); omega)
  have z2_1 : w.heap.size + 1 < w2.heap.size := by (have := hb2.size; (try simp at this); omega)
  have z2_2 : w.heap.size + 1 + 1 < w2.heap.size := by (have := hb2.size; (try simp at this); omega)
  go_wp2_with fail
  refine (meetref_yes _ _ _ _ _ hm).mono ?_
  rintro e w3 ⟨rfl, hb3⟩
  have B3 : Below w.heap.size w w3 := bt (by (repeat' (first | (with_reducible exact Below.refl _ _) | (with_reducible assumption) | (with_reducible refine Below.alloc ?_ ?_ _) | (with_reducible refine Below.drew ?_) | (with_reducible refine below_dn ?_) | (with_reducible refine Below.setCell ?_ ?_ _) | (with_reducible exact Nat.le_refl _) | omega | (simp only [World.size_alloc, World.size_setCell, World.size_drew]; omega) | (simp; omega) | (simp; done)))) hb3
  obtain ⟨hc3, hf3⟩ := bcell hb3
  have z3_0 : w.heap.size < w3.heap.size := by (have := hb3.size; (try simp at this); omega)
  have z3_1 : w.heap.size + 1 < w3.heap.size := by (have := hb3.size; (try simp at this); omega)
  have z3_2 : w.heap.size + 1 + 1 < w3.heap.size := by (have := hb3.size; (try simp at this); omega)
  have z3_3 : w2.heap.size < w3.heap.size := by (have := hb3.size; (try simp at this); omega)
  go_wp2
  refine bodyPost_ret (v := synd x (max (rdLo lo d (x - l)) a) (min (rdHi hi d (x - l)) b) d 0) (by simp [results, Try.results29, go_sem, hc1, hc2, hc3, z1_0, z1_1, z1_2, z2_0, z2_1, z2_2, z3_0, z3_1, z3_2]) rfl ⟨rfl, by (repeat' (first | (with_reducible exact Below.refl _ _) | (with_reducible assumption) | (with_reducible refine Below.alloc ?_ ?_ _) | (with_reducible refine Below.drew ?_) | (with_reducible refine below_dn ?_) | (with_reducible refine Below.setCell ?_ ?_ _) | (with_reducible exact Nat.le_refl _) | omega | (simp only [World.size_alloc, World.size_setCell, World.size_drew]; omega) | (simp; omega) | (simp; done)))⟩
end Go.Proofs.Ytnojnfmhinjcpaa
