import Derived.Test.YtnojnfmhinjcpaaG
namespace Go.Proofs.Ytnojnfmhinjcpaa
set_option linter.unusedVariables false
set_option linter.unusedSimpArgs false
open Go.RowKit Go.Sort
set_option maxHeartbeats 1000000 in
theorem sureOrNot_out1 (a b c d t : Int) (w : World) (hs : ∀ W, Sane W) (v : validB a b = false) :
    Calls Try.prog 9 #[per a b, per c d, .int .i64 t] w fun e w' => e = .returned (.bool true) ∧ Below w.heap.size w w' := by
  have HS := Lib.hid hs; clear hs
  have V1 := Lib.hid v; clear v
  go_enter Try.func9, Try.ntmps9
  go_wp2_with fail
  refine (valid_ref _ _ _).mono ?_
  rintro e w1 ⟨rfl, hb1⟩
  rw [V1.out]
  have B1 : Below w.heap.size w w1 := bt (by (repeat' (first | (with_reducible exact Below.refl _ _) | (with_reducible assumption) | (with_reducible refine Below.alloc ?_ ?_ _) | (with_reducible refine Below.drew ?_) | (with_reducible refine below_dn ?_) | (with_reducible refine Below.setCell ?_ ?_ _) | (with_reducible exact Nat.le_refl _) | omega | (simp only [World.size_alloc, World.size_setCell, World.size_drew]; omega) | (simp; omega) | (simp; done)))) hb1
  have s1 : w.heap.size ≤ w1.heap.size := B1.size
  have z1_0 : w.heap.size < w1.heap.size := by (have := hb1.size; (try simp at this); omega)
  have x1_0 : w.heap.size ≤ w1.heap.size := Nat.le_of_lt z1_0
  have c1_0 : ∀ o, w1.cell? ⟨w.heap.size, o, none⟩ = _ := fun o => hb1.cell (p := ⟨w.heap.size, o, none⟩) (by (try simp); (try omega))
  have z1_1 : w.heap.size + 1 < w1.heap.size := by (have := hb1.size; (try simp at this); omega)
  have x1_1 : w.heap.size + 1 ≤ w1.heap.size := Nat.le_of_lt z1_1
  have c1_1 : ∀ o, w1.cell? ⟨w.heap.size + 1, o, none⟩ = _ := fun o => hb1.cell (p := ⟨w.heap.size + 1, o, none⟩) (by (try simp); (try omega))
  clear hb1
  go_wp2_with fail
  refine (valid_ref _ _ _).mono ?_
  rintro e w2 ⟨rfl, hb2⟩
  have B2 : Below w.heap.size w w2 := bt (by (repeat' (first | (with_reducible exact Below.refl _ _) | (with_reducible assumption) | (with_reducible refine Below.alloc ?_ ?_ _) | (with_reducible refine Below.drew ?_) | (with_reducible refine below_dn ?_) | (with_reducible refine Below.setCell ?_ ?_ _) | (with_reducible exact Nat.le_refl _) | omega | (simp only [World.size_alloc, World.size_setCell, World.size_drew]; omega) | (simp; omega) | (simp; done)))) hb2
  have s2 : w.heap.size ≤ w2.heap.size := B2.size
  have z2_0 : w.heap.size < w2.heap.size := by (have := hb2.size; (try simp at this); omega)
  have x2_0 : w.heap.size ≤ w2.heap.size := Nat.le_of_lt z2_0
  have c2_0 : ∀ o, w2.cell? ⟨w.heap.size, o, none⟩ = _ := fun o => hb2.cell (p := ⟨w.heap.size, o, none⟩) (by (try simp); (try omega))
  have z2_1 : w.heap.size + 1 < w2.heap.size := by (have := hb2.size; (try simp at this); omega)
  have x2_1 : w.heap.size + 1 ≤ w2.heap.size := Nat.le_of_lt z2_1
  have c2_1 : ∀ o, w2.cell? ⟨w.heap.size + 1, o, none⟩ = _ := fun o => hb2.cell (p := ⟨w.heap.size + 1, o, none⟩) (by (try simp); (try omega))
  clear hb2
  have lt1 : ∀ a b : Nat, a < b → a < b + 1 := fun a b h => by omega
  have le1 : ∀ a b : Nat, a < b → a ≤ b + 1 := fun a b h => by omega
  have lo1 : ∀ b : Nat, b < b + 1 := fun b => by omega
  have ll1 : ∀ b : Nat, b ≤ b + 1 := fun b => by omega
  have lt2 : ∀ a b : Nat, a < b → a < b + 1 + 1 := fun a b h => by omega
  have le2 : ∀ a b : Nat, a < b → a ≤ b + 1 + 1 := fun a b h => by omega
  have lo2 : ∀ b : Nat, b < b + 1 + 1 := fun b => by omega
  have ll2 : ∀ b : Nat, b ≤ b + 1 + 1 := fun b => by omega
  go_wp2_with fail
  refine (HS.out _).mono ?_
  rintro e w3 ⟨rfl, hb3⟩
  have B3 : Below w.heap.size w w3 := bt (by (repeat' (first | (with_reducible exact Below.refl _ _) | (with_reducible assumption) | (with_reducible refine Below.alloc ?_ ?_ _) | (with_reducible refine Below.drew ?_) | (with_reducible refine below_dn ?_) | (with_reducible refine Below.setCell ?_ ?_ _) | (with_reducible exact Nat.le_refl _) | omega | (simp only [World.size_alloc, World.size_setCell, World.size_drew]; omega) | (simp; omega) | (simp; done)))) hb3
  have s3 : w.heap.size ≤ w3.heap.size := B3.size
  clear hb3
  go_wp2
  go_ret
  exact ⟨rfl, by (repeat' (first | (with_reducible exact Below.refl _ _) | (with_reducible assumption) | (with_reducible refine Below.alloc ?_ ?_ _) | (with_reducible refine Below.drew ?_) | (with_reducible refine below_dn ?_) | (with_reducible refine Below.setCell ?_ ?_ _) | (with_reducible exact Nat.le_refl _) | omega | (simp only [World.size_alloc, World.size_setCell, World.size_drew]; omega) | (simp; omega) | (simp; done)))⟩
set_option maxHeartbeats 1000000 in
theorem sureOrNot_out2 (a b c d t : Int) (w : World) (hs : ∀ W, Sane W) (v : validB a b = true) (u : validB c d = false) :
    Calls Try.prog 9 #[per a b, per c d, .int .i64 t] w fun e w' => e = .returned (.bool true) ∧ Below w.heap.size w w' := by
  have HS := Lib.hid hs; clear hs
  have V1 := Lib.hid v; clear v
  have V2 := Lib.hid u; clear u
  go_enter Try.func9, Try.ntmps9
  go_wp2_with fail
  refine (valid_ref _ _ _).mono ?_
  rintro e w1 ⟨rfl, hb1⟩
  rw [V1.out]
  have B1 : Below w.heap.size w w1 := bt (by (repeat' (first | (with_reducible exact Below.refl _ _) | (with_reducible assumption) | (with_reducible refine Below.alloc ?_ ?_ _) | (with_reducible refine Below.drew ?_) | (with_reducible refine below_dn ?_) | (with_reducible refine Below.setCell ?_ ?_ _) | (with_reducible exact Nat.le_refl _) | omega | (simp only [World.size_alloc, World.size_setCell, World.size_drew]; omega) | (simp; omega) | (simp; done)))) hb1
  have s1 : w.heap.size ≤ w1.heap.size := B1.size
  have z1_0 : w.heap.size < w1.heap.size := by (have := hb1.size; (try simp at this); omega)
  have x1_0 : w.heap.size ≤ w1.heap.size := Nat.le_of_lt z1_0
  have c1_0 : ∀ o, w1.cell? ⟨w.heap.size, o, none⟩ = _ := fun o => hb1.cell (p := ⟨w.heap.size, o, none⟩) (by (try simp); (try omega))
  have z1_1 : w.heap.size + 1 < w1.heap.size := by (have := hb1.size; (try simp at this); omega)
  have x1_1 : w.heap.size + 1 ≤ w1.heap.size := Nat.le_of_lt z1_1
  have c1_1 : ∀ o, w1.cell? ⟨w.heap.size + 1, o, none⟩ = _ := fun o => hb1.cell (p := ⟨w.heap.size + 1, o, none⟩) (by (try simp); (try omega))
  clear hb1
  go_wp2_with fail
  refine (valid_ref _ _ _).mono ?_
  rintro e w2 ⟨rfl, hb2⟩
  rw [V2.out]
  have B2 : Below w.heap.size w w2 := bt (by (repeat' (first | (with_reducible exact Below.refl _ _) | (with_reducible assumption) | (with_reducible refine Below.alloc ?_ ?_ _) | (with_reducible refine Below.drew ?_) | (with_reducible refine below_dn ?_) | (with_reducible refine Below.setCell ?_ ?_ _) | (with_reducible exact Nat.le_refl _) | omega | (simp only [World.size_alloc, World.size_setCell, World.size_drew]; omega) | (simp; omega) | (simp; done)))) hb2
  have s2 : w.heap.size ≤ w2.heap.size := B2.size
  have z2_0 : w.heap.size < w2.heap.size := by (have := hb2.size; (try simp at this); omega)
  have x2_0 : w.heap.size ≤ w2.heap.size := Nat.le_of_lt z2_0
  have c2_0 : ∀ o, w2.cell? ⟨w.heap.size, o, none⟩ = _ := fun o => hb2.cell (p := ⟨w.heap.size, o, none⟩) (by (try simp); (try omega))
  have z2_1 : w.heap.size + 1 < w2.heap.size := by (have := hb2.size; (try simp at this); omega)
  have x2_1 : w.heap.size + 1 ≤ w2.heap.size := Nat.le_of_lt z2_1
  have c2_1 : ∀ o, w2.cell? ⟨w.heap.size + 1, o, none⟩ = _ := fun o => hb2.cell (p := ⟨w.heap.size + 1, o, none⟩) (by (try simp); (try omega))
  clear hb2
  have lt1 : ∀ a b : Nat, a < b → a < b + 1 := fun a b h => by omega
  have le1 : ∀ a b : Nat, a < b → a ≤ b + 1 := fun a b h => by omega
  have lo1 : ∀ b : Nat, b < b + 1 := fun b => by omega
  have ll1 : ∀ b : Nat, b ≤ b + 1 := fun b => by omega
  have lt2 : ∀ a b : Nat, a < b → a < b + 1 + 1 := fun a b h => by omega
  have le2 : ∀ a b : Nat, a < b → a ≤ b + 1 + 1 := fun a b h => by omega
  have lo2 : ∀ b : Nat, b < b + 1 + 1 := fun b => by omega
  have ll2 : ∀ b : Nat, b ≤ b + 1 + 1 := fun b => by omega
  go_wp2_with fail
  refine (HS.out _).mono ?_
  rintro e w3 ⟨rfl, hb3⟩
  have B3 : Below w.heap.size w w3 := bt (by (repeat' (first | (with_reducible exact Below.refl _ _) | (with_reducible assumption) | (with_reducible refine Below.alloc ?_ ?_ _) | (with_reducible refine Below.drew ?_) | (with_reducible refine below_dn ?_) | (with_reducible refine Below.setCell ?_ ?_ _) | (with_reducible exact Nat.le_refl _) | omega | (simp only [World.size_alloc, World.size_setCell, World.size_drew]; omega) | (simp; omega) | (simp; done)))) hb3
  have s3 : w.heap.size ≤ w3.heap.size := B3.size
  clear hb3
  go_wp2
  go_ret
  exact ⟨rfl, by (repeat' (first | (with_reducible exact Below.refl _ _) | (with_reducible assumption) | (with_reducible refine Below.alloc ?_ ?_ _) | (with_reducible refine Below.drew ?_) | (with_reducible refine below_dn ?_) | (with_reducible refine Below.setCell ?_ ?_ _) | (with_reducible exact Nat.le_refl _) | omega | (simp only [World.size_alloc, World.size_setCell, World.size_drew]; omega) | (simp; omega) | (simp; done)))⟩
set_option maxHeartbeats 1000000 in
theorem sureOrNot_out3 (a b c d t : Int) (w : World) (hs : ∀ W, Sane W) (v : validB a b = true) (u : validB c d = true) (k : c < a) :
    Calls Try.prog 9 #[per a b, per c d, .int .i64 t] w fun e w' => e = .returned (.bool true) ∧ Below w.heap.size w w' := by
  have HS := Lib.hid hs; clear hs
  have V1 := Lib.hid v; clear v
  have V2 := Lib.hid u; clear u
  go_enter Try.func9, Try.ntmps9
  go_wp2_with fail
  refine (valid_ref _ _ _).mono ?_
  rintro e w1 ⟨rfl, hb1⟩
  rw [V1.out]
  have B1 : Below w.heap.size w w1 := bt (by (repeat' (first | (with_reducible exact Below.refl _ _) | (with_reducible assumption) | (with_reducible refine Below.alloc ?_ ?_ _) | (with_reducible refine Below.drew ?_) | (with_reducible refine below_dn ?_) | (with_reducible refine Below.setCell ?_ ?_ _) | (with_reducible exact Nat.le_refl _) | omega | (simp only [World.size_alloc, World.size_setCell, World.size_drew]; omega) | (simp; omega) | (simp; done)))) hb1
  have s1 : w.heap.size ≤ w1.heap.size := B1.size
  have z1_0 : w.heap.size < w1.heap.size := by (have := hb1.size; (try simp at this); omega)
  have x1_0 : w.heap.size ≤ w1.heap.size := Nat.le_of_lt z1_0
  have c1_0 : ∀ o, w1.cell? ⟨w.heap.size, o, none⟩ = _ := fun o => hb1.cell (p := ⟨w.heap.size, o, none⟩) (by (try simp); (try omega))
  have z1_1 : w.heap.size + 1 < w1.heap.size := by (have := hb1.size; (try simp at this); omega)
  have x1_1 : w.heap.size + 1 ≤ w1.heap.size := Nat.le_of_lt z1_1
  have c1_1 : ∀ o, w1.cell? ⟨w.heap.size + 1, o, none⟩ = _ := fun o => hb1.cell (p := ⟨w.heap.size + 1, o, none⟩) (by (try simp); (try omega))
  clear hb1
  go_wp2_with fail
  refine (valid_ref _ _ _).mono ?_
  rintro e w2 ⟨rfl, hb2⟩
  rw [V2.out]
  have B2 : Below w.heap.size w w2 := bt (by (repeat' (first | (with_reducible exact Below.refl _ _) | (with_reducible assumption) | (with_reducible refine Below.alloc ?_ ?_ _) | (with_reducible refine Below.drew ?_) | (with_reducible refine below_dn ?_) | (with_reducible refine Below.setCell ?_ ?_ _) | (with_reducible exact Nat.le_refl _) | omega | (simp only [World.size_alloc, World.size_setCell, World.size_drew]; omega) | (simp; omega) | (simp; done)))) hb2
  have s2 : w.heap.size ≤ w2.heap.size := B2.size
  have z2_0 : w.heap.size < w2.heap.size := by (have := hb2.size; (try simp at this); omega)
  have x2_0 : w.heap.size ≤ w2.heap.size := Nat.le_of_lt z2_0
  have c2_0 : ∀ o, w2.cell? ⟨w.heap.size, o, none⟩ = _ := fun o => hb2.cell (p := ⟨w.heap.size, o, none⟩) (by (try simp); (try omega))
  have z2_1 : w.heap.size + 1 < w2.heap.size := by (have := hb2.size; (try simp at this); omega)
  have x2_1 : w.heap.size + 1 ≤ w2.heap.size := Nat.le_of_lt z2_1
  have c2_1 : ∀ o, w2.cell? ⟨w.heap.size + 1, o, none⟩ = _ := fun o => hb2.cell (p := ⟨w.heap.size + 1, o, none⟩) (by (try simp); (try omega))
  clear hb2
  have lt1 : ∀ a b : Nat, a < b → a < b + 1 := fun a b h => by omega
  have le1 : ∀ a b : Nat, a < b → a ≤ b + 1 := fun a b h => by omega
  have lo1 : ∀ b : Nat, b < b + 1 := fun b => by omega
  have ll1 : ∀ b : Nat, b ≤ b + 1 := fun b => by omega
  have lt2 : ∀ a b : Nat, a < b → a < b + 1 + 1 := fun a b h => by omega
  have le2 : ∀ a b : Nat, a < b → a ≤ b + 1 + 1 := fun a b h => by omega
  have lo2 : ∀ b : Nat, b < b + 1 + 1 := fun b => by omega
  have ll2 : ∀ b : Nat, b ≤ b + 1 + 1 := fun b => by omega
  go_wp2_with fail
  refine (HS.out _).mono ?_
  rintro e w3 ⟨rfl, hb3⟩
  have B3 : Below w.heap.size w w3 := bt (by (repeat' (first | (with_reducible exact Below.refl _ _) | (with_reducible assumption) | (with_reducible refine Below.alloc ?_ ?_ _) | (with_reducible refine Below.drew ?_) | (with_reducible refine below_dn ?_) | (with_reducible refine Below.setCell ?_ ?_ _) | (with_reducible exact Nat.le_refl _) | omega | (simp only [World.size_alloc, World.size_setCell, World.size_drew]; omega) | (simp; omega) | (simp; done)))) hb3
  have s3 : w.heap.size ≤ w3.heap.size := B3.size
  clear hb3
  go_wp2
  go_ret
  exact ⟨rfl, by (repeat' (first | (with_reducible exact Below.refl _ _) | (with_reducible assumption) | (with_reducible refine Below.alloc ?_ ?_ _) | (with_reducible refine Below.drew ?_) | (with_reducible refine below_dn ?_) | (with_reducible refine Below.setCell ?_ ?_ _) | (with_reducible exact Nat.le_refl _) | omega | (simp only [World.size_alloc, World.size_setCell, World.size_drew]; omega) | (simp; omega) | (simp; done)))⟩
set_option maxHeartbeats 1000000 in
theorem sureOrNot_out4 (a b c d t : Int) (w : World) (hs : ∀ W, Sane W) (v : validB a b = true) (u : validB c d = true) (k : a ≤ c) (k2 : b < d) :
    Calls Try.prog 9 #[per a b, per c d, .int .i64 t] w fun e w' => e = .returned (.bool true) ∧ Below w.heap.size w w' := by
  have HS := Lib.hid hs; clear hs
  have V1 := Lib.hid v; clear v
  have V2 := Lib.hid u; clear u
  go_enter Try.func9, Try.ntmps9
  go_wp2_with fail
  refine (valid_ref _ _ _).mono ?_
  rintro e w1 ⟨rfl, hb1⟩
  rw [V1.out]
  have B1 : Below w.heap.size w w1 := bt (by (repeat' (first | (with_reducible exact Below.refl _ _) | (with_reducible assumption) | (with_reducible refine Below.alloc ?_ ?_ _) | (with_reducible refine Below.drew ?_) | (with_reducible refine below_dn ?_) | (with_reducible refine Below.setCell ?_ ?_ _) | (with_reducible exact Nat.le_refl _) | omega | (simp only [World.size_alloc, World.size_setCell, World.size_drew]; omega) | (simp; omega) | (simp; done)))) hb1
  have s1 : w.heap.size ≤ w1.heap.size := B1.size
  have z1_0 : w.heap.size < w1.heap.size := by (have := hb1.size; (try simp at this); omega)
  have x1_0 : w.heap.size ≤ w1.heap.size := Nat.le_of_lt z1_0
  have c1_0 : ∀ o, w1.cell? ⟨w.heap.size, o, none⟩ = _ := fun o => hb1.cell (p := ⟨w.heap.size, o, none⟩) (by (try simp); (try omega))
  have z1_1 : w.heap.size + 1 < w1.heap.size := by (have := hb1.size; (try simp at this); omega)
  have x1_1 : w.heap.size + 1 ≤ w1.heap.size := Nat.le_of_lt z1_1
  have c1_1 : ∀ o, w1.cell? ⟨w.heap.size + 1, o, none⟩ = _ := fun o => hb1.cell (p := ⟨w.heap.size + 1, o, none⟩) (by (try simp); (try omega))
  clear hb1
  go_wp2_with fail
  refine (valid_ref _ _ _).mono ?_
  rintro e w2 ⟨rfl, hb2⟩
  rw [V2.out]
  have B2 : Below w.heap.size w w2 := bt (by (repeat' (first | (with_reducible exact Below.refl _ _) | (with_reducible assumption) | (with_reducible refine Below.alloc ?_ ?_ _) | (with_reducible refine Below.drew ?_) | (with_reducible refine below_dn ?_) | (with_reducible refine Below.setCell ?_ ?_ _) | (with_reducible exact Nat.le_refl _) | omega | (simp only [World.size_alloc, World.size_setCell, World.size_drew]; omega) | (simp; omega) | (simp; done)))) hb2
  have s2 : w.heap.size ≤ w2.heap.size := B2.size
  have z2_0 : w.heap.size < w2.heap.size := by (have := hb2.size; (try simp at this); omega)
  have x2_0 : w.heap.size ≤ w2.heap.size := Nat.le_of_lt z2_0
  have c2_0 : ∀ o, w2.cell? ⟨w.heap.size, o, none⟩ = _ := fun o => hb2.cell (p := ⟨w.heap.size, o, none⟩) (by (try simp); (try omega))
  have z2_1 : w.heap.size + 1 < w2.heap.size := by (have := hb2.size; (try simp at this); omega)
  have x2_1 : w.heap.size + 1 ≤ w2.heap.size := Nat.le_of_lt z2_1
  have c2_1 : ∀ o, w2.cell? ⟨w.heap.size + 1, o, none⟩ = _ := fun o => hb2.cell (p := ⟨w.heap.size + 1, o, none⟩) (by (try simp); (try omega))
  clear hb2
  have lt1 : ∀ a b : Nat, a < b → a < b + 1 := fun a b h => by omega
  have le1 : ∀ a b : Nat, a < b → a ≤ b + 1 := fun a b h => by omega
  have lo1 : ∀ b : Nat, b < b + 1 := fun b => by omega
  have ll1 : ∀ b : Nat, b ≤ b + 1 := fun b => by omega
  have lt2 : ∀ a b : Nat, a < b → a < b + 1 + 1 := fun a b h => by omega
  have le2 : ∀ a b : Nat, a < b → a ≤ b + 1 + 1 := fun a b h => by omega
  have lo2 : ∀ b : Nat, b < b + 1 + 1 := fun b => by omega
  have ll2 : ∀ b : Nat, b ≤ b + 1 + 1 := fun b => by omega
  go_wp2_with fail
  refine (HS.out _).mono ?_
  rintro e w3 ⟨rfl, hb3⟩
  have B3 : Below w.heap.size w w3 := bt (by (repeat' (first | (with_reducible exact Below.refl _ _) | (with_reducible assumption) | (with_reducible refine Below.alloc ?_ ?_ _) | (with_reducible refine Below.drew ?_) | (with_reducible refine below_dn ?_) | (with_reducible refine Below.setCell ?_ ?_ _) | (with_reducible exact Nat.le_refl _) | omega | (simp only [World.size_alloc, World.size_setCell, World.size_drew]; omega) | (simp; omega) | (simp; done)))) hb3
  have s3 : w.heap.size ≤ w3.heap.size := B3.size
  clear hb3
  go_wp2
  go_ret
  exact ⟨rfl, by (repeat' (first | (with_reducible exact Below.refl _ _) | (with_reducible assumption) | (with_reducible refine Below.alloc ?_ ?_ _) | (with_reducible refine Below.drew ?_) | (with_reducible refine below_dn ?_) | (with_reducible refine Below.setCell ?_ ?_ _) | (with_reducible exact Nat.le_refl _) | omega | (simp only [World.size_alloc, World.size_setCell, World.size_drew]; omega) | (simp; omega) | (simp; done)))⟩
end Go.Proofs.Ytnojnfmhinjcpaa
