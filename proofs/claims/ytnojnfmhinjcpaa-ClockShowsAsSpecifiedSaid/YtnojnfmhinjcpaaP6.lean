import Derived.Test.YtnojnfmhinjcpaaQ
import Derived.Test.YtnojnfmhinjcpaaG
namespace Go.Proofs.Ytnojnfmhinjcpaa
set_option linter.unusedVariables false
set_option linter.unusedSimpArgs false
open Go.RowKit Go.Sort
set_option maxHeartbeats 1000000 in
theorem shows_long (base t d : Int) (a : Option Addr) (cap : Nat) (ps : List (Int × Int)) (w : World) (hs : ∀ W, Sane W) (hp : PacesA w a ps) (hm : ps.length ≤ 9223372036854775807) (h : 200 < ps.length) :
    Calls Try.prog 6 #[.int .i64 base, .slice a ps.length cap, .int .i64 t, .int .i64 d] w fun e w' => e = .returned (.bool true) ∧ Below w.heap.size w w' := by
  have HS := Lib.hid hs; clear hs
  have HP := Lib.hid hp; clear hp
  go_enter Try.func6, Try.ntmps6
  go_wp2_with fail
  refine (HS.out _).mono ?_
  rintro e w1 ⟨rfl, hb1⟩
  have B1 : Below w.heap.size w w1 := bt (by (repeat' (first | (with_reducible exact Below.refl _ _) | (with_reducible assumption) | (with_reducible refine Below.alloc ?_ ?_ _) | (with_reducible refine Below.drew ?_) | (with_reducible refine below_dn ?_) | (with_reducible refine Below.setCell ?_ ?_ _) | (with_reducible exact Nat.le_refl _) | omega | (simp only [World.size_alloc, World.size_setCell, World.size_drew]; omega) | (simp; omega) | (simp; done)))) hb1
  have s1 : w.heap.size ≤ w1.heap.size := B1.size
  clear hb1
  go_wp2
  all_goals
    go_ret
    exact ⟨ret_bool (by first | rfl | (apply decide_eq_true; omega) | (simp; omega)), by (repeat' (first | (with_reducible exact Below.refl _ _) | (with_reducible assumption) | (with_reducible refine Below.alloc ?_ ?_ _) | (with_reducible refine Below.drew ?_) | (with_reducible refine below_dn ?_) | (with_reducible refine Below.setCell ?_ ?_ _) | (with_reducible exact Nat.le_refl _) | omega | (simp only [World.size_alloc, World.size_setCell, World.size_drew]; omega) | (simp; omega) | (simp; done)))⟩
set_option maxHeartbeats 1000000 in
theorem shows_short (base t d : Int) (a : Option Addr) (cap : Nat) (ps : List (Int × Int)) (w : World) (hs : ∀ W, Sane W) (hp : PacesA w a ps) (hm : ps.length ≤ 9223372036854775807) (h : ps.length ≤ 200) :
    Calls Try.prog 6 #[.int .i64 base, .slice a ps.length cap, .int .i64 t, .int .i64 d] w fun e w' => e = .returned (.bool true) ∧ Below w.heap.size w w' := by
  have HS := Lib.hid hs; clear hs
  have HP := Lib.hid hp; clear hp
  obtain ⟨sN, hN⟩ : ∃ z, showN base t ps = z := ⟨_, rfl⟩
  obtain ⟨sE, hE⟩ : ∃ z, showE base t ps = z := ⟨_, rfl⟩
  obtain ⟨hn, hH⟩ : ∃ z, honB ps d = z := ⟨_, rfl⟩
  have c1 := fun (W : World) (hb : Below w.heap.size w W) => show_fn base t a cap ps W (HP.out.mono hb) hm
  have c2 := fun (W : World) (hb : Below w.heap.size w W) => showref_fn base t a cap ps W (HP.out.mono hb) hm
  have c3 := fun (W : World) (hb : Below w.heap.size w W) => honest_any ps a cap d W (HP.out.mono hb) hm
  have c4 := fun (W : World) (hb : Below w.heap.size w W) => honestref_any ps a cap d W (HP.out.mono hb) hm
  rw [hN, hE] at c1 c2
  rw [hH] at c3 c4
  have C1 := Lib.hid c1; have C2 := Lib.hid c2; have C3 := Lib.hid c3; have C4 := Lib.hid c4
  clear c1 c2 c3 c4 hN hE hH
  go_enter Try.func6, Try.ntmps6
  go_wp2_with fail
  refine (C1.out _ (by (repeat' (first | (with_reducible exact Below.refl _ _) | (with_reducible assumption) | (with_reducible refine Below.alloc ?_ ?_ _) | (with_reducible refine Below.drew ?_) | (with_reducible refine below_dn ?_) | (with_reducible refine Below.setCell ?_ ?_ _) | (with_reducible exact Nat.le_refl _) | omega | (simp only [World.size_alloc, World.size_setCell, World.size_drew]; omega) | (simp; omega) | (simp; done))))).mono ?_
  rintro e w1 ⟨rfl, hb1⟩
  have B1 : Below w.heap.size w w1 := bt (by (repeat' (first | (with_reducible exact Below.refl _ _) | (with_reducible assumption) | (with_reducible refine Below.alloc ?_ ?_ _) | (with_reducible refine Below.drew ?_) | (with_reducible refine below_dn ?_) | (with_reducible refine Below.setCell ?_ ?_ _) | (with_reducible exact Nat.le_refl _) | omega | (simp only [World.size_alloc, World.size_setCell, World.size_drew]; omega) | (simp; omega) | (simp; done)))) hb1
  have s1 : w.heap.size ≤ w1.heap.size := B1.size
  clear hb1
  go_wp2_with fail
  refine (C2.out _ (by (repeat' (first | (with_reducible exact Below.refl _ _) | (with_reducible assumption) | (with_reducible refine Below.alloc ?_ ?_ _) | (with_reducible refine Below.drew ?_) | (with_reducible refine below_dn ?_) | (with_reducible refine Below.setCell ?_ ?_ _) | (with_reducible exact Nat.le_refl _) | omega | (simp only [World.size_alloc, World.size_setCell, World.size_drew]; omega) | (simp; omega) | (simp; done))))).mono ?_
  rintro e w2 ⟨rfl, hb2⟩
  have B2 : Below w.heap.size w w2 := bt (by (repeat' (first | (with_reducible exact Below.refl _ _) | (with_reducible assumption) | (with_reducible refine Below.alloc ?_ ?_ _) | (with_reducible refine Below.drew ?_) | (with_reducible refine below_dn ?_) | (with_reducible refine Below.setCell ?_ ?_ _) | (with_reducible exact Nat.le_refl _) | omega | (simp only [World.size_alloc, World.size_setCell, World.size_drew]; omega) | (simp; omega) | (simp; done)))) hb2
  have s2 : w.heap.size ≤ w2.heap.size := B2.size
  clear hb2
  go_wp2_with fail
  refine (HS.out _).mono ?_
  rintro e w3 ⟨rfl, hb3⟩
  have B3 : Below w.heap.size w w3 := bt (by (repeat' (first | (with_reducible exact Below.refl _ _) | (with_reducible assumption) | (with_reducible refine Below.alloc ?_ ?_ _) | (with_reducible refine Below.drew ?_) | (with_reducible refine below_dn ?_) | (with_reducible refine Below.setCell ?_ ?_ _) | (with_reducible exact Nat.le_refl _) | omega | (simp only [World.size_alloc, World.size_setCell, World.size_drew]; omega) | (simp; omega) | (simp; done)))) hb3
  have s3 : w.heap.size ≤ w3.heap.size := B3.size
  have z3_s : w2.heap.size < w3.heap.size := by (have := hb3.size; (try simp at this); omega)
  have x3_s : w2.heap.size ≤ w3.heap.size := Nat.le_of_lt z3_s
  have d3_s_0 : w3.cell? ⟨w2.heap.size, 0, none⟩ = some (.int .i64 sN) := keep (by go_cell) hb3
  have d3_s_1 : w3.cell? ⟨w2.heap.size, 1, none⟩ = some (.int .i64 sE) := keep (by go_cell) hb3
  clear hb3
  go_wp2_with fail
  refine (C3.out _ (by (repeat' (first | (with_reducible exact Below.refl _ _) | (with_reducible assumption) | (with_reducible refine Below.alloc ?_ ?_ _) | (with_reducible refine Below.drew ?_) | (with_reducible refine below_dn ?_) | (with_reducible refine Below.setCell ?_ ?_ _) | (with_reducible exact Nat.le_refl _) | omega | (simp only [World.size_alloc, World.size_setCell, World.size_drew]; omega) | (simp; omega) | (simp; done))))).mono ?_
  rintro e w4 ⟨rfl, hb4⟩
  have B4 : Below w.heap.size w w4 := bt (by (repeat' (first | (with_reducible exact Below.refl _ _) | (with_reducible assumption) | (with_reducible refine Below.alloc ?_ ?_ _) | (with_reducible refine Below.drew ?_) | (with_reducible refine below_dn ?_) | (with_reducible refine Below.setCell ?_ ?_ _) | (with_reducible exact Nat.le_refl _) | omega | (simp only [World.size_alloc, World.size_setCell, World.size_drew]; omega) | (simp; omega) | (simp; done)))) hb4
  have s4 : w.heap.size ≤ w4.heap.size := B4.size
  have z4_s : w2.heap.size < w4.heap.size := by (have := hb4.size; (try simp at this); omega)
  have x4_s : w2.heap.size ≤ w4.heap.size := Nat.le_of_lt z4_s
  have d4_s_0 : w4.cell? ⟨w2.heap.size, 0, none⟩ = some (.int .i64 sN) := keep (by go_cell) hb4
  have d4_s_1 : w4.cell? ⟨w2.heap.size, 1, none⟩ = some (.int .i64 sE) := keep (by go_cell) hb4
  clear hb4 d3_s_0 d3_s_1
  go_wp2_with fail
  refine (C4.out _ (by (repeat' (first | (with_reducible exact Below.refl _ _) | (with_reducible assumption) | (with_reducible refine Below.alloc ?_ ?_ _) | (with_reducible refine Below.drew ?_) | (with_reducible refine below_dn ?_) | (with_reducible refine Below.setCell ?_ ?_ _) | (with_reducible exact Nat.le_refl _) | omega | (simp only [World.size_alloc, World.size_setCell, World.size_drew]; omega) | (simp; omega) | (simp; done))))).mono ?_
  rintro e w5 ⟨rfl, rfl⟩
  go_wp2
  all_goals
    go_ret
    exact ⟨ret_bool (by first | rfl | (apply decide_eq_true; omega) | (simp; omega)), by (repeat' (first | (with_reducible exact Below.refl _ _) | (with_reducible assumption) | (with_reducible refine Below.alloc ?_ ?_ _) | (with_reducible refine Below.drew ?_) | (with_reducible refine below_dn ?_) | (with_reducible refine Below.setCell ?_ ?_ _) | (with_reducible exact Nat.le_refl _) | omega | (simp only [World.size_alloc, World.size_setCell, World.size_drew]; omega) | (simp; omega) | (simp; done)))⟩
theorem showsAsSpecified (base t d : Int) (a : Option Addr) (cap : Nat) (ps : List (Int × Int)) (w : World) (hs : ∀ W, Sane W) (hp : PacesA w a ps) (hm : ps.length ≤ 9223372036854775807) :
    Calls Try.prog 6 #[.int .i64 base, .slice a ps.length cap, .int .i64 t, .int .i64 d] w fun e w' => e = .returned (.bool true) ∧ Below w.heap.size w w' := by
  by_cases h : 200 < ps.length
  · exact shows_long _ _ _ _ _ _ _ hs hp hm h
  · exact shows_short _ _ _ _ _ _ _ hs hp hm (by omega)
end Go.Proofs.Ytnojnfmhinjcpaa
