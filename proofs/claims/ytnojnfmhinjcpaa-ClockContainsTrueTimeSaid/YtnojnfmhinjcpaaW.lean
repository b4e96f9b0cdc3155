import Derived.Test.YtnojnfmhinjcpaaV28
import Derived.Test.YtnojnfmhinjcpaaV29
namespace Go.Proofs.Ytnojnfmhinjcpaa
set_option linter.unusedVariables false
set_option linter.unusedSimpArgs false
open Go.RowKit Go.Sort
theorem ok0 : OkClk 1000 5000 5010 100000 := by unfold OkClk; omega
theorem u5023 : untilF 1000 5010 100000 5023 = 1010 := untilF_eq ok0 (Or.inr ⟨by omega, by omega, by decide +kernel, fun _ => by decide +kernel⟩)
theorem u5011 : untilF 1000 5010 100000 5011 = -1 := untilF_eq ok0 (Or.inl ⟨rfl, fun x hx _ => Int.le_trans (by decide +kernel : (5011 : Int) ≤ rdHi 5010 100000 0) (rdHi_mono 5010 100000 0 (x - 1000) (by omega) (by omega))⟩)
def ShowSample (W : World) : Prop := ∀ b, W.cell? ⟨b, 0, none⟩ = some (.int .i64 100) → W.cell? ⟨b, 1, none⟩ = some (.int .i64 100000) → W.cell? ⟨b, 2, none⟩ = some (.int .i64 50) → W.cell? ⟨b, 3, none⟩ = some (.int .i64 (-100000)) → Calls Try.prog 35 #[.int .i64 7, .slice (some ⟨b, 0, none⟩) 2 2, .int .i64 120] W fun e w' => e = .returned (.tuple #[.int .i64 135, .int .i64 0]) ∧ Below W.heap.size W w'
set_option maxHeartbeats 2000000 in
set_option maxRecDepth 100000 in
theorem sanity_of (w : World) (hs : ∀ W, ShowSample W) :
    Calls Try.prog 12 #[] w fun e w' => e = .returned (.bool true) ∧ Below w.heap.size w w' := by
  have HS := Lib.hid hs; clear hs
  go_enter Try.func12, Try.ntmps12
  go_wp2_with fail
  refine (new_yes 1000 5000 5010 100000 _ (by omega)).mono ?_
  rintro e w1 ⟨rfl, hb1⟩
  have B1 : Below w.heap.size w w1 := bt (by (repeat' (first | (with_reducible exact Below.refl _ _) | (with_reducible assumption) | (with_reducible refine Below.alloc ?_ ?_ _) | (with_reducible refine Below.drew ?_) | (with_reducible refine below_dn ?_) | (with_reducible refine Below.setCell ?_ ?_ _) | (with_reducible exact Nat.le_refl _) | omega | (simp only [World.size_alloc, World.size_setCell, World.size_drew]; omega) | (simp; omega) | (simp; done)))) hb1
  have s1 : w.heap.size ≤ w1.heap.size := B1.size
  clear hb1
  go_wp2_with fail
  refine (read_ok 1000 5000 5010 100000 1000 _ ok0 (by omega) (by omega)).mono ?_
  rintro e w2 ⟨rfl, hb2⟩
  rw [show rdLo 5000 100000 (1000 - 1000) = 5000 by decide +kernel, show rdHi 5010 100000 (1000 - 1000) = 5011 by decide +kernel]
  have B2 : Below w.heap.size w w2 := bt (by (repeat' (first | (with_reducible exact Below.refl _ _) | (with_reducible assumption) | (with_reducible refine Below.alloc ?_ ?_ _) | (with_reducible refine Below.drew ?_) | (with_reducible refine below_dn ?_) | (with_reducible refine Below.setCell ?_ ?_ _) | (with_reducible exact Nat.le_refl _) | omega | (simp only [World.size_alloc, World.size_setCell, World.size_drew]; omega) | (simp; omega) | (simp; done)))) hb2
  have s2 : w.heap.size ≤ w2.heap.size := B2.size
  have z2_0 : w1.heap.size < w2.heap.size := by (have := hb2.size; (try simp at this); omega)
  have c2_0 : ∀ o, w2.cell? ⟨w1.heap.size, o, none⟩ = _ := fun o => hb2.cell (p := ⟨w1.heap.size, o, none⟩) (by (try simp); (try omega))
  clear hb2
  go_wp2_with fail
  refine (read_ok 1000 5000 5010 100000 1010 _ ok0 (by omega) (by omega)).mono ?_
  rintro e w3 ⟨rfl, hb3⟩
  rw [show rdLo 5000 100000 (1010 - 1000) = 5009 by decide +kernel, show rdHi 5010 100000 (1010 - 1000) = 5022 by decide +kernel]
  have B3 : Below w.heap.size w w3 := bt (by (repeat' (first | (with_reducible exact Below.refl _ _) | (with_reducible assumption) | (with_reducible refine Below.alloc ?_ ?_ _) | (with_reducible refine Below.drew ?_) | (with_reducible refine below_dn ?_) | (with_reducible refine Below.setCell ?_ ?_ _) | (with_reducible exact Nat.le_refl _) | omega | (simp only [World.size_alloc, World.size_setCell, World.size_drew]; omega) | (simp; omega) | (simp; done)))) hb3
  have s3 : w.heap.size ≤ w3.heap.size := B3.size
  have z3_0 : w1.heap.size < w3.heap.size := by (have := hb3.size; (try simp at this); omega)
  have c3_0 : ∀ o, w3.cell? ⟨w1.heap.size, o, none⟩ = _ := fun o => hb3.cell (p := ⟨w1.heap.size, o, none⟩) (by (try simp); (try omega))
  have z3_1 : w2.heap.size < w3.heap.size := by (have := hb3.size; (try simp at this); omega)
  have c3_1 : ∀ o, w3.cell? ⟨w2.heap.size, o, none⟩ = _ := fun o => hb3.cell (p := ⟨w2.heap.size, o, none⟩) (by (try simp); (try omega))
  clear hb3
  go_wp2_with fail
  refine (read_ok 1000 5000 5010 100000 2101 _ ok0 (by omega) (by omega)).mono ?_
  rintro e w4 ⟨rfl, hb4⟩
  rw [show rdLo 5000 100000 (2101 - 1000) = 6000 by decide +kernel, show rdHi 5010 100000 (2101 - 1000) = 6234 by decide +kernel]
  have B4 : Below w.heap.size w w4 := bt (by (repeat' (first | (with_reducible exact Below.refl _ _) | (with_reducible assumption) | (with_reducible refine Below.alloc ?_ ?_ _) | (with_reducible refine Below.drew ?_) | (with_reducible refine below_dn ?_) | (with_reducible refine Below.setCell ?_ ?_ _) | (with_reducible exact Nat.le_refl _) | omega | (simp only [World.size_alloc, World.size_setCell, World.size_drew]; omega) | (simp; omega) | (simp; done)))) hb4
  have s4 : w.heap.size ≤ w4.heap.size := B4.size
  have z4_0 : w1.heap.size < w4.heap.size := by (have := hb4.size; (try simp at this); omega)
  have c4_0 : ∀ o, w4.cell? ⟨w1.heap.size, o, none⟩ = _ := fun o => hb4.cell (p := ⟨w1.heap.size, o, none⟩) (by (try simp); (try omega))
  have z4_1 : w2.heap.size < w4.heap.size := by (have := hb4.size; (try simp at this); omega)
  have c4_1 : ∀ o, w4.cell? ⟨w2.heap.size, o, none⟩ = _ := fun o => hb4.cell (p := ⟨w2.heap.size, o, none⟩) (by (try simp); (try omega))
  have z4_2 : w3.heap.size < w4.heap.size := by (have := hb4.size; (try simp at this); omega)
  have c4_2 : ∀ o, w4.cell? ⟨w3.heap.size, o, none⟩ = _ := fun o => hb4.cell (p := ⟨w3.heap.size, o, none⟩) (by (try simp); (try omega))
  clear hb4
  go_wp2_with fail
  refine (read_time 1000 5000 5010 100000 999 _ ok0 (by omega) (by omega) (by omega)).mono ?_
  rintro e w5 ⟨rfl, hb5⟩
  have B5 : Below w.heap.size w w5 := bt (by (repeat' (first | (with_reducible exact Below.refl _ _) | (with_reducible assumption) | (with_reducible refine Below.alloc ?_ ?_ _) | (with_reducible refine Below.drew ?_) | (with_reducible refine below_dn ?_) | (with_reducible refine Below.setCell ?_ ?_ _) | (with_reducible exact Nat.le_refl _) | omega | (simp only [World.size_alloc, World.size_setCell, World.size_drew]; omega) | (simp; omega) | (simp; done)))) hb5
  have s5 : w.heap.size ≤ w5.heap.size := B5.size
  have z5_0 : w1.heap.size < w5.heap.size := by (have := hb5.size; (try simp at this); omega)
  have c5_0 : ∀ o, w5.cell? ⟨w1.heap.size, o, none⟩ = _ := fun o => hb5.cell (p := ⟨w1.heap.size, o, none⟩) (by (try simp); (try omega))
  have z5_1 : w2.heap.size < w5.heap.size := by (have := hb5.size; (try simp at this); omega)
  have c5_1 : ∀ o, w5.cell? ⟨w2.heap.size, o, none⟩ = _ := fun o => hb5.cell (p := ⟨w2.heap.size, o, none⟩) (by (try simp); (try omega))
  have z5_2 : w3.heap.size < w5.heap.size := by (have := hb5.size; (try simp at this); omega)
  have c5_2 : ∀ o, w5.cell? ⟨w3.heap.size, o, none⟩ = _ := fun o => hb5.cell (p := ⟨w3.heap.size, o, none⟩) (by (try simp); (try omega))
  have z5_3 : w4.heap.size < w5.heap.size := by (have := hb5.size; (try simp at this); omega)
  have c5_3 : ∀ o, w5.cell? ⟨w4.heap.size, o, none⟩ = _ := fun o => hb5.cell (p := ⟨w4.heap.size, o, none⟩) (by (try simp); (try omega))
  clear hb5
  go_wp2_with fail
  refine (sync_ok 1000 5000 5010 100000 1010 5020 5040 _ ok0 (by omega) (by omega) (by omega) (by decide +kernel)).mono ?_
  rintro e w6 ⟨rfl, hb6⟩
  rw [show max 5020 (rdLo 5000 100000 (1010 - 1000)) = 5020 by decide +kernel, show min 5040 (rdHi 5010 100000 (1010 - 1000)) = 5022 by decide +kernel]
  have B6 : Below w.heap.size w w6 := bt (by (repeat' (first | (with_reducible exact Below.refl _ _) | (with_reducible assumption) | (with_reducible refine Below.alloc ?_ ?_ _) | (with_reducible refine Below.drew ?_) | (with_reducible refine below_dn ?_) | (with_reducible refine Below.setCell ?_ ?_ _) | (with_reducible exact Nat.le_refl _) | omega | (simp only [World.size_alloc, World.size_setCell, World.size_drew]; omega) | (simp; omega) | (simp; done)))) hb6
  have s6 : w.heap.size ≤ w6.heap.size := B6.size
  have z6_0 : w1.heap.size < w6.heap.size := by (have := hb6.size; (try simp at this); omega)
  have c6_0 : ∀ o, w6.cell? ⟨w1.heap.size, o, none⟩ = _ := fun o => hb6.cell (p := ⟨w1.heap.size, o, none⟩) (by (try simp); (try omega))
  have z6_1 : w2.heap.size < w6.heap.size := by (have := hb6.size; (try simp at this); omega)
  have c6_1 : ∀ o, w6.cell? ⟨w2.heap.size, o, none⟩ = _ := fun o => hb6.cell (p := ⟨w2.heap.size, o, none⟩) (by (try simp); (try omega))
  have z6_2 : w3.heap.size < w6.heap.size := by (have := hb6.size; (try simp at this); omega)
  have c6_2 : ∀ o, w6.cell? ⟨w3.heap.size, o, none⟩ = _ := fun o => hb6.cell (p := ⟨w3.heap.size, o, none⟩) (by (try simp); (try omega))
  have z6_3 : w4.heap.size < w6.heap.size := by (have := hb6.size; (try simp at this); omega)
  have c6_3 : ∀ o, w6.cell? ⟨w4.heap.size, o, none⟩ = _ := fun o => hb6.cell (p := ⟨w4.heap.size, o, none⟩) (by (try simp); (try omega))
  have z6_4 : w5.heap.size < w6.heap.size := by (have := hb6.size; (try simp at this); omega)
  have c6_4 : ∀ o, w6.cell? ⟨w5.heap.size, o, none⟩ = _ := fun o => hb6.cell (p := ⟨w5.heap.size, o, none⟩) (by (try simp); (try omega))
  clear hb6
  go_wp2_with fail
  refine (sync_no 1000 5000 5010 100000 1010 5030 5040 _ ok0 (by omega) (by omega) (by omega) (by decide +kernel)).mono ?_
  rintro e w7 ⟨rfl, hb7⟩
  have B7 : Below w.heap.size w w7 := bt (by (repeat' (first | (with_reducible exact Below.refl _ _) | (with_reducible assumption) | (with_reducible refine Below.alloc ?_ ?_ _) | (with_reducible refine Below.drew ?_) | (with_reducible refine below_dn ?_) | (with_reducible refine Below.setCell ?_ ?_ _) | (with_reducible exact Nat.le_refl _) | omega | (simp only [World.size_alloc, World.size_setCell, World.size_drew]; omega) | (simp; omega) | (simp; done)))) hb7
  have s7 : w.heap.size ≤ w7.heap.size := B7.size
  have z7_0 : w1.heap.size < w7.heap.size := by (have := hb7.size; (try simp at this); omega)
  have c7_0 : ∀ o, w7.cell? ⟨w1.heap.size, o, none⟩ = _ := fun o => hb7.cell (p := ⟨w1.heap.size, o, none⟩) (by (try simp); (try omega))
  have z7_1 : w2.heap.size < w7.heap.size := by (have := hb7.size; (try simp at this); omega)
  have c7_1 : ∀ o, w7.cell? ⟨w2.heap.size, o, none⟩ = _ := fun o => hb7.cell (p := ⟨w2.heap.size, o, none⟩) (by (try simp); (try omega))
  have z7_2 : w3.heap.size < w7.heap.size := by (have := hb7.size; (try simp at this); omega)
  have c7_2 : ∀ o, w7.cell? ⟨w3.heap.size, o, none⟩ = _ := fun o => hb7.cell (p := ⟨w3.heap.size, o, none⟩) (by (try simp); (try omega))
  have z7_3 : w4.heap.size < w7.heap.size := by (have := hb7.size; (try simp at this); omega)
  have c7_3 : ∀ o, w7.cell? ⟨w4.heap.size, o, none⟩ = _ := fun o => hb7.cell (p := ⟨w4.heap.size, o, none⟩) (by (try simp); (try omega))
  have z7_4 : w5.heap.size < w7.heap.size := by (have := hb7.size; (try simp at this); omega)
  have c7_4 : ∀ o, w7.cell? ⟨w5.heap.size, o, none⟩ = _ := fun o => hb7.cell (p := ⟨w5.heap.size, o, none⟩) (by (try simp); (try omega))
  have z7_5 : w6.heap.size < w7.heap.size := by (have := hb7.size; (try simp at this); omega)
  have c7_5 : ∀ o, w7.cell? ⟨w6.heap.size, o, none⟩ = _ := fun o => hb7.cell (p := ⟨w6.heap.size, o, none⟩) (by (try simp); (try omega))
  clear hb7
  go_wp2_with fail
  refine (HS.out _ _ (by go_cell) (by go_cell) (by go_cell) (by go_cell)).mono ?_
  rintro e w8 ⟨rfl, hb8⟩
  have B8 : Below w.heap.size w w8 := bt (by (repeat' (first | (with_reducible exact Below.refl _ _) | (with_reducible assumption) | (with_reducible refine Below.alloc ?_ ?_ _) | (with_reducible refine Below.drew ?_) | (with_reducible refine below_dn ?_) | (with_reducible refine Below.setCell ?_ ?_ _) | (with_reducible exact Nat.le_refl _) | omega | (simp only [World.size_alloc, World.size_setCell, World.size_drew]; omega) | (simp; omega) | (simp; done)))) hb8
  have s8 : w.heap.size ≤ w8.heap.size := B8.size
  have z8_0 : w1.heap.size < w8.heap.size := by (have := hb8.size; (try simp at this); omega)
  have c8_0 : ∀ o, w8.cell? ⟨w1.heap.size, o, none⟩ = _ := fun o => hb8.cell (p := ⟨w1.heap.size, o, none⟩) (by (try simp); (try omega))
  have z8_1 : w2.heap.size < w8.heap.size := by (have := hb8.size; (try simp at this); omega)
  have c8_1 : ∀ o, w8.cell? ⟨w2.heap.size, o, none⟩ = _ := fun o => hb8.cell (p := ⟨w2.heap.size, o, none⟩) (by (try simp); (try omega))
  have z8_2 : w3.heap.size < w8.heap.size := by (have := hb8.size; (try simp at this); omega)
  have c8_2 : ∀ o, w8.cell? ⟨w3.heap.size, o, none⟩ = _ := fun o => hb8.cell (p := ⟨w3.heap.size, o, none⟩) (by (try simp); (try omega))
  have z8_3 : w4.heap.size < w8.heap.size := by (have := hb8.size; (try simp at this); omega)
  have c8_3 : ∀ o, w8.cell? ⟨w4.heap.size, o, none⟩ = _ := fun o => hb8.cell (p := ⟨w4.heap.size, o, none⟩) (by (try simp); (try omega))
  have z8_4 : w5.heap.size < w8.heap.size := by (have := hb8.size; (try simp at this); omega)
  have c8_4 : ∀ o, w8.cell? ⟨w5.heap.size, o, none⟩ = _ := fun o => hb8.cell (p := ⟨w5.heap.size, o, none⟩) (by (try simp); (try omega))
  have z8_5 : w6.heap.size < w8.heap.size := by (have := hb8.size; (try simp at this); omega)
  have c8_5 : ∀ o, w8.cell? ⟨w6.heap.size, o, none⟩ = _ := fun o => hb8.cell (p := ⟨w6.heap.size, o, none⟩) (by (try simp); (try omega))
  have z8_6 : w7.heap.size < w8.heap.size := by (have := hb8.size; (try simp at this); omega)
  have c8_6 : ∀ o, w8.cell? ⟨w7.heap.size, o, none⟩ = _ := fun o => hb8.cell (p := ⟨w7.heap.size, o, none⟩) (by (try simp); (try omega))
  clear hb8
  go_wp2_with fail
  refine (until_fn 1000 5000 5010 100000 5023 _ ok0).mono ?_
  rintro e w9 ⟨⟨rfl, -⟩, hb9⟩
  rw [u5023]
  have B9 : Below w.heap.size w w9 := bt (by (repeat' (first | (with_reducible exact Below.refl _ _) | (with_reducible assumption) | (with_reducible refine Below.alloc ?_ ?_ _) | (with_reducible refine Below.drew ?_) | (with_reducible refine below_dn ?_) | (with_reducible refine Below.setCell ?_ ?_ _) | (with_reducible exact Nat.le_refl _) | omega | (simp only [World.size_alloc, World.size_setCell, World.size_drew]; omega) | (simp; omega) | (simp; done)))) hb9
  have s9 : w.heap.size ≤ w9.heap.size := B9.size
  have z9_0 : w1.heap.size < w9.heap.size := by (have := hb9.size; (try simp at this); omega)
  have c9_0 : ∀ o, w9.cell? ⟨w1.heap.size, o, none⟩ = _ := fun o => hb9.cell (p := ⟨w1.heap.size, o, none⟩) (by (try simp); (try omega))
  clear hb9
  go_wp2_with fail
  refine (until_fn 1000 5000 5010 100000 5011 _ ok0).mono ?_
  rintro e w10 ⟨⟨rfl, -⟩, hb10⟩
  rw [u5011]
  have B10 : Below w.heap.size w w10 := bt (by (repeat' (first | (with_reducible exact Below.refl _ _) | (with_reducible assumption) | (with_reducible refine Below.alloc ?_ ?_ _) | (with_reducible refine Below.drew ?_) | (with_reducible refine below_dn ?_) | (with_reducible refine Below.setCell ?_ ?_ _) | (with_reducible exact Nat.le_refl _) | omega | (simp only [World.size_alloc, World.size_setCell, World.size_drew]; omega) | (simp; omega) | (simp; done)))) hb10
  have s10 : w.heap.size ≤ w10.heap.size := B10.size
  have z10_0 : w1.heap.size < w10.heap.size := by (have := hb10.size; (try simp at this); omega)
  have c10_0 : ∀ o, w10.cell? ⟨w1.heap.size, o, none⟩ = _ := fun o => hb10.cell (p := ⟨w1.heap.size, o, none⟩) (by (try simp); (try omega))
  clear hb10
  go_wp2_with fail
  refine (worth_in 1000 5000 5010 100000 1005 5023 _ ok0 (by omega) (by omega)).mono ?_
  rintro e w11 ⟨rfl, hb11⟩
  rw [u5023]
  have B11 : Below w.heap.size w w11 := bt (by (repeat' (first | (with_reducible exact Below.refl _ _) | (with_reducible assumption) | (with_reducible refine Below.alloc ?_ ?_ _) | (with_reducible refine Below.drew ?_) | (with_reducible refine below_dn ?_) | (with_reducible refine Below.setCell ?_ ?_ _) | (with_reducible exact Nat.le_refl _) | omega | (simp only [World.size_alloc, World.size_setCell, World.size_drew]; omega) | (simp; omega) | (simp; done)))) hb11
  have s11 : w.heap.size ≤ w11.heap.size := B11.size
  have z11_0 : w1.heap.size < w11.heap.size := by (have := hb11.size; (try simp at this); omega)
  have c11_0 : ∀ o, w11.cell? ⟨w1.heap.size, o, none⟩ = _ := fun o => hb11.cell (p := ⟨w1.heap.size, o, none⟩) (by (try simp); (try omega))
  clear hb11
  go_wp2
  go_ret
  exact ⟨rfl, by (repeat' (first | (with_reducible exact Below.refl _ _) | (with_reducible assumption) | (with_reducible refine Below.alloc ?_ ?_ _) | (with_reducible refine Below.drew ?_) | (with_reducible refine below_dn ?_) | (with_reducible refine Below.setCell ?_ ?_ _) | (with_reducible exact Nat.le_refl _) | omega | (simp only [World.size_alloc, World.size_setCell, World.size_drew]; omega) | (simp; omega) | (simp; done)))⟩
end Go.Proofs.Ytnojnfmhinjcpaa
