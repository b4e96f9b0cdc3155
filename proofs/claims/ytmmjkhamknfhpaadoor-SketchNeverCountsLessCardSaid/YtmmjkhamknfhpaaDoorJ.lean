/- Contracts: New of both. -/
import Derived.Test.YtmmjkhamknfhpaaDoorI
namespace Go.Proofs.YtmmjkhamknfhpaaDoor
set_option linter.unusedVariables false
set_option linter.unusedSimpArgs false
open Go.RowKit
theorem run_mk (n : Nat) (hn : n ≤ 1000000) (X : World) : (Instr.makeSlice 22 (.int .i64 (n : Int)) (.int .i64 (n : Int))).run Tryd.prog X = .ok (.slice (some ⟨X.heap.size, 0, none⟩) n n) (X.alloc (.cells (madeCells #[.int .i64 0] n) 3)) := by
  obtain ⟨i, hi, hzz⟩ := Option.map_eq_some_iff.1 infoI
  simp only [Prod.mk.injEq] at hzz
  obtain ⟨hz, hs, hb⟩ := hzz
  have := run_make (P := Tryd.prog) X 22 3 i _ Tryd.underlying22 hi hz .i64 .i64 n n (by omega) (by omega) (by rw [hb]; omega) (by omega)
  simpa [hs, Value.cells] using this
theorem made_row (n : Nat) (X : World) : RowI (X.alloc (.cells (madeCells #[.int .i64 0] n) 3)) X.heap.size (List.replicate n 0) := by
  refine ⟨_, heap_alloc_new X _, fun k hk => ?_⟩
  rw [List.length_replicate] at hk
  have e : (List.replicate n (0 : Int)).getD k 0 = 0 := by rw [List.getD_eq_getElem?_getD, List.getElem?_replicate]; split <;> rfl
  rw [e, ← Array.getElem?_toList, toList_madeCells_one, List.getElem?_replicate, if_pos hk]
  rfl
theorem made_row' {n g : Nat} {X : World} (h : X.heap.size = g) : RowI (X.alloc (.cells (madeCells #[.int .i64 0] n) 3)) g (List.replicate n 0) := by subst h; exact made_row n X
set_option maxRecDepth 100000 in
set_option maxHeartbeats 400000 in
theorem new_arg (W S : Int) (w : World) (b1 : -9223372036854775808 ≤ W) (b2 : W ≤ 9223372036854775807) (h : pw W = false ∨ S < 1) :
    Calls Tryd.prog 10 #[.int .i64 W, .int .i64 S] w fun e w' => e = .returned (.tuple #[.agg #[.int .i64 0, .int .i64 0, .int .i64 0, .slice none 0 0], .int .i64 1]) ∧ Below w.heap.size w w' := by
  have PC := Lib.hid (fun X : World => ispow_any W X b1 b2)
  by_cases hp : pw W = true
  · have hS : S < 1 := by rcases h with h | h; rw [hp] at h; cases h; exact h
    rw [hp] at PC
    clear h hp b1 b2
    go_enter Tryd.func10, Tryd.ntmps10
    go_wp2_with fail
    refine (PC.out _).mono ?_
    rintro e w1 ⟨rfl, rfl⟩
    go_wp2
    refine bodyPost_ret (by simp [results, Tryd.results10, go_sem]; try rfl) rfl ?_
    exact ⟨rfl, by (repeat' (first | (with_reducible exact Below.refl _ _) | (with_reducible assumption) | (with_reducible refine Below.alloc ?_ ?_ _) | (with_reducible refine Below.drew ?_) | (with_reducible refine below_dn ?_) | (with_reducible refine Below.setCell ?_ ?_ _) | (with_reducible exact Nat.le_refl _) | omega | (simp only [World.size_alloc, World.size_setCell, World.size_drew]; omega) | (simp; omega) | (simp; done)))⟩
  · have hp : pw W = false := by simpa using hp
    rw [hp] at PC
    clear h hp b1 b2
    go_enter Tryd.func10, Tryd.ntmps10
    go_wp2_with fail
    refine (PC.out _).mono ?_
    rintro e w1 ⟨rfl, rfl⟩
    go_wp2
    refine bodyPost_ret (by simp [results, Tryd.results10, go_sem]; try rfl) rfl ?_
    exact ⟨rfl, by (repeat' (first | (with_reducible exact Below.refl _ _) | (with_reducible assumption) | (with_reducible refine Below.alloc ?_ ?_ _) | (with_reducible refine Below.drew ?_) | (with_reducible refine below_dn ?_) | (with_reducible refine Below.setCell ?_ ?_ _) | (with_reducible exact Nat.le_refl _) | omega | (simp only [World.size_alloc, World.size_setCell, World.size_drew]; omega) | (simp; omega) | (simp; done)))⟩
set_option maxRecDepth 100000 in
set_option maxHeartbeats 400000 in
theorem new_limit (W S : Int) (w : World) (b1 : -9223372036854775808 ≤ W) (b2 : W ≤ 9223372036854775807) (hp : pw W = true) (hS : 1 ≤ S) (h : 4096 < W ∨ 1048576 < S) :
    Calls Tryd.prog 10 #[.int .i64 W, .int .i64 S] w fun e w' => e = .returned (.tuple #[.agg #[.int .i64 0, .int .i64 0, .int .i64 0, .slice none 0 0], .int .i64 2]) ∧ Below w.heap.size w w' := by
  have PC := Lib.hid (fun X : World => ispow_any W X b1 b2)
  rw [hp] at PC
  clear hp b1 b2
  by_cases hW : 4096 < W
  · clear h
    go_enter Tryd.func10, Tryd.ntmps10
    go_wp2_with fail
    refine (PC.out _).mono ?_
    rintro e w1 ⟨rfl, rfl⟩
    go_wp2
    refine bodyPost_ret (by simp [results, Tryd.results10, go_sem]; try rfl) rfl ?_
    exact ⟨rfl, by (repeat' (first | (with_reducible exact Below.refl _ _) | (with_reducible assumption) | (with_reducible refine Below.alloc ?_ ?_ _) | (with_reducible refine Below.drew ?_) | (with_reducible refine below_dn ?_) | (with_reducible refine Below.setCell ?_ ?_ _) | (with_reducible exact Nat.le_refl _) | omega | (simp only [World.size_alloc, World.size_setCell, World.size_drew]; omega) | (simp; omega) | (simp; done)))⟩
  · have h2 : 1048576 < S := by omega
    clear h
    go_enter Tryd.func10, Tryd.ntmps10
    go_wp2_with fail
    refine (PC.out _).mono ?_
    rintro e w1 ⟨rfl, rfl⟩
    go_wp2
    refine bodyPost_ret (by simp [results, Tryd.results10, go_sem]; try rfl) rfl ?_
    exact ⟨rfl, by (repeat' (first | (with_reducible exact Below.refl _ _) | (with_reducible assumption) | (with_reducible refine Below.alloc ?_ ?_ _) | (with_reducible refine Below.drew ?_) | (with_reducible refine below_dn ?_) | (with_reducible refine Below.setCell ?_ ?_ _) | (with_reducible exact Nat.le_refl _) | omega | (simp only [World.size_alloc, World.size_setCell, World.size_drew]; omega) | (simp; omega) | (simp; done)))⟩
set_option maxRecDepth 100000 in
set_option maxHeartbeats 400000 in
theorem new_ok (W S : Int) (w : World) (b1 : -9223372036854775808 ≤ W) (b2 : W ≤ 9223372036854775807) (hp : pw W = true) (hS : 1 ≤ S) (hW : W ≤ 4096) (hS2 : S ≤ 1048576) (n : Nat) (hn : (n : Int) = 4 * W) :
    Calls Tryd.prog 10 #[.int .i64 W, .int .i64 S] w fun e w' => (∃ g, e = .returned (.tuple #[.agg #[.int .i64 W, .int .i64 S, .int .i64 0, .slice (some ⟨g, 0, none⟩) n n], .int .i64 0]) ∧ RowI w' g (List.replicate n 0)) ∧ Below w.heap.size w w' := by
  have PC := Lib.hid (fun X : World => ispow_any W X b1 b2)
  have p0 := pw_pos hp
  rw [hp] at PC
  have v1 : IntKind.i64.wrap (4 * W) = (n : Int) := by rw [IntKind.wrap_i64]; omega
  have v2 : 4 * W = (n : Int) := hn.symm
  have mk := fun X : World => run_mk n (by omega) X
  clear hp b1 b2 hn p0
  go_enter Tryd.func10, Tryd.ntmps10
  go_wp2_with fail
  refine (PC.out _).mono ?_
  rintro e w1 ⟨rfl, rfl⟩
  go_wp2
  refine bodyPost_ret (by simp [results, Tryd.results10, go_sem]; try rfl) rfl ?_
  exact ⟨⟨w.heap.size + 1, rfl, made_row' (World.size_alloc _ _)⟩, by (repeat' (first | (with_reducible exact Below.refl _ _) | (with_reducible assumption) | (with_reducible refine Below.alloc ?_ ?_ _) | (with_reducible refine Below.drew ?_) | (with_reducible refine below_dn ?_) | (with_reducible refine Below.setCell ?_ ?_ _) | (with_reducible exact Nat.le_refl _) | omega | (simp only [World.size_alloc, World.size_setCell, World.size_drew]; omega) | (simp; omega) | (simp; done)))⟩
set_option maxRecDepth 100000 in
set_option maxHeartbeats 400000 in
theorem newref_arg (W S : Int) (w : World) (b1 : -9223372036854775808 ≤ W) (b2 : W ≤ 9223372036854775807) (h : pw W = false ∨ S < 1) :
    Calls Tryd.prog 11 #[.int .i64 W, .int .i64 S] w fun e w' => e = .returned (.agg #[.int .i64 0, .int .i64 0, .int .i64 0, .slice none 0 0, .int .i64 1]) ∧ Below w.heap.size w w' := by
  have PC := Lib.hid (fun X : World => powref_any W X b1 b2)
  by_cases hp : pw W = true
  · have hS : S < 1 := by rcases h with h | h; rw [hp] at h; cases h; exact h
    rw [hp] at PC
    clear h hp b1 b2
    go_enter Tryd.func11, Tryd.ntmps11
    go_wp2_with fail
    refine (PC.out _).mono ?_
    rintro e w1 ⟨rfl, rfl⟩
    go_wp2
    refine bodyPost_ret (by simp [results, Tryd.results11, go_sem]; try rfl) rfl ?_
    exact ⟨rfl, by (repeat' (first | (with_reducible exact Below.refl _ _) | (with_reducible assumption) | (with_reducible refine Below.alloc ?_ ?_ _) | (with_reducible refine Below.drew ?_) | (with_reducible refine below_dn ?_) | (with_reducible refine Below.setCell ?_ ?_ _) | (with_reducible exact Nat.le_refl _) | omega | (simp only [World.size_alloc, World.size_setCell, World.size_drew]; omega) | (simp; omega) | (simp; done)))⟩
  · have hp : pw W = false := by simpa using hp
    rw [hp] at PC
    clear h hp b1 b2
    go_enter Tryd.func11, Tryd.ntmps11
    go_wp2_with fail
    refine (PC.out _).mono ?_
    rintro e w1 ⟨rfl, rfl⟩
    go_wp2
    refine bodyPost_ret (by simp [results, Tryd.results11, go_sem]; try rfl) rfl ?_
    exact ⟨rfl, by (repeat' (first | (with_reducible exact Below.refl _ _) | (with_reducible assumption) | (with_reducible refine Below.alloc ?_ ?_ _) | (with_reducible refine Below.drew ?_) | (with_reducible refine below_dn ?_) | (with_reducible refine Below.setCell ?_ ?_ _) | (with_reducible exact Nat.le_refl _) | omega | (simp only [World.size_alloc, World.size_setCell, World.size_drew]; omega) | (simp; omega) | (simp; done)))⟩
set_option maxRecDepth 100000 in
set_option maxHeartbeats 400000 in
theorem newref_limit (W S : Int) (w : World) (b1 : -9223372036854775808 ≤ W) (b2 : W ≤ 9223372036854775807) (hp : pw W = true) (hS : 1 ≤ S) (h : 4096 < W ∨ 1048576 < S) :
    Calls Tryd.prog 11 #[.int .i64 W, .int .i64 S] w fun e w' => e = .returned (.agg #[.int .i64 0, .int .i64 0, .int .i64 0, .slice none 0 0, .int .i64 2]) ∧ Below w.heap.size w w' := by
  have PC := Lib.hid (fun X : World => powref_any W X b1 b2)
  rw [hp] at PC
  clear hp b1 b2
  by_cases hW : 4096 < W
  · clear h
    go_enter Tryd.func11, Tryd.ntmps11
    go_wp2_with fail
    refine (PC.out _).mono ?_
    rintro e w1 ⟨rfl, rfl⟩
    go_wp2
    refine bodyPost_ret (by simp [results, Tryd.results11, go_sem]; try rfl) rfl ?_
    exact ⟨rfl, by (repeat' (first | (with_reducible exact Below.refl _ _) | (with_reducible assumption) | (with_reducible refine Below.alloc ?_ ?_ _) | (with_reducible refine Below.drew ?_) | (with_reducible refine below_dn ?_) | (with_reducible refine Below.setCell ?_ ?_ _) | (with_reducible exact Nat.le_refl _) | omega | (simp only [World.size_alloc, World.size_setCell, World.size_drew]; omega) | (simp; omega) | (simp; done)))⟩
  · have h2 : 1048576 < S := by omega
    clear h
    go_enter Tryd.func11, Tryd.ntmps11
    go_wp2_with fail
    refine (PC.out _).mono ?_
    rintro e w1 ⟨rfl, rfl⟩
    go_wp2
    refine bodyPost_ret (by simp [results, Tryd.results11, go_sem]; try rfl) rfl ?_
    exact ⟨rfl, by (repeat' (first | (with_reducible exact Below.refl _ _) | (with_reducible assumption) | (with_reducible refine Below.alloc ?_ ?_ _) | (with_reducible refine Below.drew ?_) | (with_reducible refine below_dn ?_) | (with_reducible refine Below.setCell ?_ ?_ _) | (with_reducible exact Nat.le_refl _) | omega | (simp only [World.size_alloc, World.size_setCell, World.size_drew]; omega) | (simp; omega) | (simp; done)))⟩
set_option maxRecDepth 100000 in
set_option maxHeartbeats 400000 in
theorem newref_ok (W S : Int) (w : World) (b1 : -9223372036854775808 ≤ W) (b2 : W ≤ 9223372036854775807) (hp : pw W = true) (hS : 1 ≤ S) (hW : W ≤ 4096) (hS2 : S ≤ 1048576) (n : Nat) (hn : (n : Int) = 4 * W) :
    Calls Tryd.prog 11 #[.int .i64 W, .int .i64 S] w fun e w' => (∃ g, e = .returned (.agg #[.int .i64 W, .int .i64 S, .int .i64 0, .slice (some ⟨g, 0, none⟩) n n, .int .i64 0]) ∧ RowI w' g (List.replicate n 0)) ∧ Below w.heap.size w w' := by
  have PC := Lib.hid (fun X : World => powref_any W X b1 b2)
  have p0 := pw_pos hp
  rw [hp] at PC
  have v1 : IntKind.i64.wrap (4 * W) = (n : Int) := by rw [IntKind.wrap_i64]; omega
  have v2 : 4 * W = (n : Int) := hn.symm
  have mk := fun X : World => run_mk n (by omega) X
  clear hp b1 b2 hn p0
  go_enter Tryd.func11, Tryd.ntmps11
  go_wp2_with fail
  refine (PC.out _).mono ?_
  rintro e w1 ⟨rfl, rfl⟩
  go_wp2
  refine bodyPost_ret (by simp [results, Tryd.results11, go_sem]; try rfl) rfl ?_
  exact ⟨⟨w.heap.size + 1, rfl, made_row' (World.size_alloc _ _)⟩, by (repeat' (first | (with_reducible exact Below.refl _ _) | (with_reducible assumption) | (with_reducible refine Below.alloc ?_ ?_ _) | (with_reducible refine Below.drew ?_) | (with_reducible refine below_dn ?_) | (with_reducible refine Below.setCell ?_ ?_ _) | (with_reducible exact Nat.le_refl _) | omega | (simp only [World.size_alloc, World.size_setCell, World.size_drew]; omega) | (simp; omega) | (simp; done)))⟩
end Go.Proofs.YtmmjkhamknfhpaaDoor
