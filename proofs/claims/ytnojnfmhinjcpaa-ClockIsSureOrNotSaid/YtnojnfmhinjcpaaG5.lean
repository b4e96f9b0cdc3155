import Derived.Test.YtnojnfmhinjcpaaG
namespace Go.Proofs.Ytnojnfmhinjcpaa
set_option linter.unusedVariables false
set_option linter.unusedSimpArgs false
open Go.RowKit Go.Sort
set_option maxHeartbeats 2000000 in
theorem sureOrNot_in5 (a b c d t : Int) (w : World) (hs : ∀ W, Sane W)
    (v1 : 0 ≤ a ∧ a ≤ b ∧ b ≤ 1099511627776) (v2 : 0 ≤ c ∧ c ≤ d ∧ d ≤ 1099511627776) (v3 : a ≤ c ∧ d ≤ b) (t1 : ¬ d < t) (t3 : ¬ t ≤ c) :
    Calls Try.prog 9 #[per a b, per c d, .int .i64 t] w fun e w' => e = .returned (.bool true) ∧ Below w.heap.size w w' := by
  have HS := Lib.hid hs; clear hs
  obtain ⟨a1, a2, a3⟩ := v1
  obtain ⟨c1, c2, c3⟩ := v2
  obtain ⟨e1, e2⟩ := v3
  have V1 := Lib.hid (show validB a b = true by simp [validB]; omega)
  have V2 := Lib.hid (show validB c d = true by simp [validB]; omega)
  have M1 := Lib.hid (show max a c = c by omega)
  have M2 := Lib.hid (show min b d = d by omega)
  go_enter Try.func9, Try.ntmps9
  go_wp2_with fail
  refine (valid_ref _ _ _).mono ?_
  rintro e w1 ⟨rfl, hb1⟩
  rw [V1.out]
  have B1 : Below w.heap.size w w1 := bt (by (repeat' (first | (with_reducible exact Below.refl _ _) | (with_reducible assumption) | (with_reducible refine Below.alloc ?_ ?_ _) | (with_reducible refine Below.drew ?_) | (with_reducible refine below_dn ?_) | (with_reducible refine Below.setCell ?_ ?_ _) | (with_reducible exact Nat.le_refl _) | omega | (simp only [World.size_alloc, World.size_setCell, World.size_drew]; omega) | (simp; omega) | (simp; done)))) hb1
  have s1 : w.heap.size ≤ w1.heap.size := B1.size
  have z1_0 : w.heap.size < w1.heap.size := by (have := hb1.size; (try simp at this); omega)
  have x1_0 : w.heap.size ≤ w1.heap.size := Nat.le_of_lt z1_0
  have c1_0 : ∀ o, w1.cell? ⟨w.heap.size, o, none⟩ = _ := fun o => hb1.cell (p := ⟨w.heap.size, o, none⟩) (by (try simp); (try omega))
  have z1_1 : w.heap.size + 1 < w1.heap.size := by (have := hb1.size; (try simp at this); omega)
  have x1_1 : w.heap.size + 1 ≤ w1.heap.size := Nat.le_of_lt z1_1
  have c1_1 : ∀ o, w1.cell? ⟨w.heap.size + 1, o, none⟩ = _ := fun o => hb1.cell (p := ⟨w.heap.size + 1, o, none⟩) (by (try simp); (try omega))
  clear hb1
  go_wp2_with fail
  refine (valid_ref _ _ _).mono ?_
  rintro e w2 ⟨rfl, hb2⟩
  rw [V2.out]
  have B2 : Below w.heap.size w w2 := bt (by (repeat' (first | (with_reducible exact Below.refl _ _) | (with_reducible assumption) | (with_reducible refine Below.alloc ?_ ?_ _) | (with_reducible refine Below.drew ?_) | (with_reducible refine below_dn ?_) | (with_reducible refine Below.setCell ?_ ?_ _) | (with_reducible exact Nat.le_refl _) | omega | (simp only [World.size_alloc, World.size_setCell, World.size_drew]; omega) | (simp; omega) | (simp; done)))) hb2
  have s2 : w.heap.size ≤ w2.heap.size := B2.size
  have z2_0 : w.heap.size < w2.heap.size := by (have := hb2.size; (try simp at this); omega)
  have x2_0 : w.heap.size ≤ w2.heap.size := Nat.le_of_lt z2_0
  have c2_0 : ∀ o, w2.cell? ⟨w.heap.size, o, none⟩ = _ := fun o => hb2.cell (p := ⟨w.heap.size, o, none⟩) (by (try simp); (try omega))
  have z2_1 : w.heap.size + 1 < w2.heap.size := by (have := hb2.size; (try simp at this); omega)
  have x2_1 : w.heap.size + 1 ≤ w2.heap.size := Nat.le_of_lt z2_1
  have c2_1 : ∀ o, w2.cell? ⟨w.heap.size + 1, o, none⟩ = _ := fun o => hb2.cell (p := ⟨w.heap.size + 1, o, none⟩) (by (try simp); (try omega))
  clear hb2
  go_wp2_with fail
  refine (meet_yes _ _ _ _ _ (by omega)).mono ?_
  rintro e w3 ⟨rfl, hb3⟩
  rw [M1.out, M2.out]
  have B3 : Below w.heap.size w w3 := bt (by (repeat' (first | (with_reducible exact Below.refl _ _) | (with_reducible assumption) | (with_reducible refine Below.alloc ?_ ?_ _) | (with_reducible refine Below.drew ?_) | (with_reducible refine below_dn ?_) | (with_reducible refine Below.setCell ?_ ?_ _) | (with_reducible exact Nat.le_refl _) | omega | (simp only [World.size_alloc, World.size_setCell, World.size_drew]; omega) | (simp; omega) | (simp; done)))) hb3
  have s3 : w.heap.size ≤ w3.heap.size := B3.size
  have z3_0 : w.heap.size < w3.heap.size := by (have := hb3.size; (try simp at this); omega)
  have x3_0 : w.heap.size ≤ w3.heap.size := Nat.le_of_lt z3_0
  have c3_0 : ∀ o, w3.cell? ⟨w.heap.size, o, none⟩ = _ := fun o => hb3.cell (p := ⟨w.heap.size, o, none⟩) (by (try simp); (try omega))
  have z3_1 : w.heap.size + 1 < w3.heap.size := by (have := hb3.size; (try simp at this); omega)
  have x3_1 : w.heap.size + 1 ≤ w3.heap.size := Nat.le_of_lt z3_1
  have c3_1 : ∀ o, w3.cell? ⟨w.heap.size + 1, o, none⟩ = _ := fun o => hb3.cell (p := ⟨w.heap.size + 1, o, none⟩) (by (try simp); (try omega))
  clear hb3
  have lt1 : ∀ a b : Nat, a < b → a < b + 1 := fun a b h => by omega
  have le1 : ∀ a b : Nat, a < b → a ≤ b + 1 := fun a b h => by omega
  have lo1 : ∀ b : Nat, b < b + 1 := fun b => by omega
  have ll1 : ∀ b : Nat, b ≤ b + 1 := fun b => by omega
  have lt2 : ∀ a b : Nat, a < b → a < b + 1 + 1 := fun a b h => by omega
  have le2 : ∀ a b : Nat, a < b → a ≤ b + 1 + 1 := fun a b h => by omega
  have lo2 : ∀ b : Nat, b < b + 1 + 1 := fun b => by omega
  have ll2 : ∀ b : Nat, b ≤ b + 1 + 1 := fun b => by omega
  have lt3 : ∀ a b : Nat, a < b → a < b + 1 + 1 + 1 := fun a b h => by omega
  have le3 : ∀ a b : Nat, a < b → a ≤ b + 1 + 1 + 1 := fun a b h => by omega
  have lo3 : ∀ b : Nat, b < b + 1 + 1 + 1 := fun b => by omega
  have ll3 : ∀ b : Nat, b ≤ b + 1 + 1 + 1 := fun b => by omega
  have lt4 : ∀ a b : Nat, a < b → a < b + 1 + 1 + 1 + 1 := fun a b h => by omega
  have le4 : ∀ a b : Nat, a < b → a ≤ b + 1 + 1 + 1 + 1 := fun a b h => by omega
  have lo4 : ∀ b : Nat, b < b + 1 + 1 + 1 + 1 := fun b => by omega
  have ll4 : ∀ b : Nat, b ≤ b + 1 + 1 + 1 + 1 := fun b => by omega
  have lt5 : ∀ a b : Nat, a < b → a < b + 1 + 1 + 1 + 1 + 1 := fun a b h => by omega
  have le5 : ∀ a b : Nat, a < b → a ≤ b + 1 + 1 + 1 + 1 + 1 := fun a b h => by omega
  have lo5 : ∀ b : Nat, b < b + 1 + 1 + 1 + 1 + 1 := fun b => by omega
  have ll5 : ∀ b : Nat, b ≤ b + 1 + 1 + 1 + 1 + 1 := fun b => by omega
  have lt6 : ∀ a b : Nat, a < b → a < b + 1 + 1 + 1 + 1 + 1 + 1 := fun a b h => by omega
  have le6 : ∀ a b : Nat, a < b → a ≤ b + 1 + 1 + 1 + 1 + 1 + 1 := fun a b h => by omega
  have lo6 : ∀ b : Nat, b < b + 1 + 1 + 1 + 1 + 1 + 1 := fun b => by omega
  have ll6 : ∀ b : Nat, b ≤ b + 1 + 1 + 1 + 1 + 1 + 1 := fun b => by omega
  go_wp2
  have gc := grow_cell
  refine wp_region_quiet_below (by kernel_rfl) (by kernel_rfl) ?_
  have m3 : min a c = a := by omega
  have m4 : max b d = b := by omega
  have m5 : min c a = a := by omega
  have m6 : max d b = b := by omega
  repeat (quiet_step (first | (go_at_call 12; exact Calls.regrown_of (HS.out _)) | (go_at_call 15; exact Calls.regrown_of (hull_any _ _ _ _ _))))
  refine wpQuiet_nil ?_
  intro _ hw'
  obtain ⟨⟨dq, osq⟩, hw''⟩ := hw'
  subst hw''
  go_wp2
  go_ret
  exact ⟨rfl, bt (by (repeat' (first | (with_reducible exact Below.refl _ _) | (with_reducible assumption) | (with_reducible refine Below.alloc ?_ ?_ _) | (with_reducible refine Below.drew ?_) | (with_reducible refine below_dn ?_) | (with_reducible refine Below.setCell ?_ ?_ _) | (with_reducible exact Nat.le_refl _) | omega | (simp only [World.size_alloc, World.size_setCell, World.size_drew]; omega) | (simp; omega) | (simp; done)))) (below_regrown _ _ _)⟩
end Go.Proofs.Ytnojnfmhinjcpaa
