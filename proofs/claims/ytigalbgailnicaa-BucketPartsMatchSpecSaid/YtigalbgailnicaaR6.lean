/- Split, where it is refused; the reference's Split. -/
import Derived.Test.YtigalbgailnicaaR5
namespace Go.Proofs.Ytigalbgailnicaa
set_option linter.unusedVariables false
set_option linter.unusedSimpArgs false
open Go.RowKit
abbrev par (v : Value) (e : Int) : Value := .agg #[v, .int .i64 e]
set_option maxRecDepth 100000 in
set_option maxHeartbeats 1000000 in
theorem split_bad (c n d l a : Int) (ac an : Option Addr) (capc capn : Nat) (cs ns : List Int) (w : World) (hm : cs.length ≤ 9223372036854775807) (hm2 : ns.length ≤ 9223372036854775807) (h : ¬ OkB c n d l a) :
    Calls Try.prog 24 #[bk c n d l a, .slice ac cs.length capc, .slice an ns.length capn] w fun e w' => e = .returned (.tuple #[.slice none 0 0, .int .i64 1]) ∧ Below w.heap.size w w' := by
  have HH := Lib.hid h; clear h
  go_enter Try.func24, Try.ntmps24
  go_wp2_with fail
  refine (valid_no _ _ _ _ _ _ HH.out).mono ?_
  rintro e w1 ⟨rfl, hb1⟩
  have B1 : Below w.heap.size w w1 := bt (by (repeat' (first | (with_reducible exact Below.refl _ _) | (with_reducible assumption) | (with_reducible refine Below.alloc ?_ ?_ _) | (with_reducible refine Below.drew ?_) | (with_reducible refine below_dn ?_) | (with_reducible refine Below.setCell ?_ ?_ _) | (with_reducible exact Nat.le_refl _) | omega | (simp only [World.size_alloc, World.size_setCell, World.size_drew]; omega) | (simp; omega) | (simp; done)))) hb1
  have z1 : w.heap.size < w1.heap.size := by (have := hb1.size; (try simp at this); omega)
  have d0 : w1.cell? ⟨w.heap.size, 0, none⟩ = some (.int .i64 c) := keep (by go_cell) hb1
  have d1 : w1.cell? ⟨w.heap.size, 1, none⟩ = some (.int .i64 n) := keep (by go_cell) hb1
  have d2 : w1.cell? ⟨w.heap.size, 2, none⟩ = some (.int .i64 d) := keep (by go_cell) hb1
  have d3 : w1.cell? ⟨w.heap.size, 3, none⟩ = some (.int .i64 l) := keep (by go_cell) hb1
  have d4 : w1.cell? ⟨w.heap.size, 4, none⟩ = some (.int .i64 a) := keep (by go_cell) hb1
  clear hb1
  go_wp2
  go_ret2
  exact ⟨rfl, by (repeat' (first | (with_reducible exact Below.refl _ _) | (with_reducible assumption) | (with_reducible refine Below.alloc ?_ ?_ _) | (with_reducible refine Below.drew ?_) | (with_reducible refine below_dn ?_) | (with_reducible refine Below.setCell ?_ ?_ _) | (with_reducible exact Nat.le_refl _) | omega | (simp only [World.size_alloc, World.size_setCell, World.size_drew]; omega) | (simp; omega) | (simp; done)))⟩
set_option maxRecDepth 100000 in
set_option maxHeartbeats 1000000 in
theorem split_few (c n d l a : Int) (ac an : Option Addr) (capc capn : Nat) (cs ns : List Int) (w : World) (hm : cs.length ≤ 9223372036854775807) (hm2 : ns.length ≤ 9223372036854775807) (h : OkB c n d l a) (k : cs.length < 1) :
    Calls Try.prog 24 #[bk c n d l a, .slice ac cs.length capc, .slice an ns.length capn] w fun e w' => e = .returned (.tuple #[.slice none 0 0, .int .i64 1]) ∧ Below w.heap.size w w' := by
  have HH := Lib.hid h; clear h
  go_enter Try.func24, Try.ntmps24
  go_wp2_with fail
  refine (valid_yes _ _ _ _ _ _ HH.out).mono ?_
  rintro e w1 ⟨rfl, hb1⟩
  have B1 : Below w.heap.size w w1 := bt (by (repeat' (first | (with_reducible exact Below.refl _ _) | (with_reducible assumption) | (with_reducible refine Below.alloc ?_ ?_ _) | (with_reducible refine Below.drew ?_) | (with_reducible refine below_dn ?_) | (with_reducible refine Below.setCell ?_ ?_ _) | (with_reducible exact Nat.le_refl _) | omega | (simp only [World.size_alloc, World.size_setCell, World.size_drew]; omega) | (simp; omega) | (simp; done)))) hb1
  have z1 : w.heap.size < w1.heap.size := by (have := hb1.size; (try simp at this); omega)
  have d0 : w1.cell? ⟨w.heap.size, 0, none⟩ = some (.int .i64 c) := keep (by go_cell) hb1
  have d1 : w1.cell? ⟨w.heap.size, 1, none⟩ = some (.int .i64 n) := keep (by go_cell) hb1
  have d2 : w1.cell? ⟨w.heap.size, 2, none⟩ = some (.int .i64 d) := keep (by go_cell) hb1
  have d3 : w1.cell? ⟨w.heap.size, 3, none⟩ = some (.int .i64 l) := keep (by go_cell) hb1
  have d4 : w1.cell? ⟨w.heap.size, 4, none⟩ = some (.int .i64 a) := keep (by go_cell) hb1
  clear hb1
  go_wp2_with fail
  refine (within_no _ _ _ _ (by omega)).mono ?_
  rintro e w1b ⟨rfl, rfl⟩
  go_wp2
  go_ret2
  exact ⟨rfl, by (repeat' (first | (with_reducible exact Below.refl _ _) | (with_reducible assumption) | (with_reducible refine Below.alloc ?_ ?_ _) | (with_reducible refine Below.drew ?_) | (with_reducible refine below_dn ?_) | (with_reducible refine Below.setCell ?_ ?_ _) | (with_reducible exact Nat.le_refl _) | omega | (simp only [World.size_alloc, World.size_setCell, World.size_drew]; omega) | (simp; omega) | (simp; done)))⟩
set_option maxRecDepth 100000 in
set_option maxHeartbeats 1000000 in
theorem split_many (c n d l a : Int) (ac an : Option Addr) (capc capn : Nat) (cs ns : List Int) (w : World) (hm : cs.length ≤ 9223372036854775807) (hm2 : ns.length ≤ 9223372036854775807) (h : OkB c n d l a) (k : 64 < cs.length) :
    Calls Try.prog 24 #[bk c n d l a, .slice ac cs.length capc, .slice an ns.length capn] w fun e w' => e = .returned (.tuple #[.slice none 0 0, .int .i64 1]) ∧ Below w.heap.size w w' := by
  have HH := Lib.hid h; clear h
  have h1 : 1 ≤ cs.length := by omega
  go_enter Try.func24, Try.ntmps24
  go_wp2_with fail
  refine (valid_yes _ _ _ _ _ _ HH.out).mono ?_
  rintro e w1 ⟨rfl, hb1⟩
  have B1 : Below w.heap.size w w1 := bt (by (repeat' (first | (with_reducible exact Below.refl _ _) | (with_reducible assumption) | (with_reducible refine Below.alloc ?_ ?_ _) | (with_reducible refine Below.drew ?_) | (with_reducible refine below_dn ?_) | (with_reducible refine Below.setCell ?_ ?_ _) | (with_reducible exact Nat.le_refl _) | omega | (simp only [World.size_alloc, World.size_setCell, World.size_drew]; omega) | (simp; omega) | (simp; done)))) hb1
  have z1 : w.heap.size < w1.heap.size := by (have := hb1.size; (try simp at this); omega)
  have d0 : w1.cell? ⟨w.heap.size, 0, none⟩ = some (.int .i64 c) := keep (by go_cell) hb1
  have d1 : w1.cell? ⟨w.heap.size, 1, none⟩ = some (.int .i64 n) := keep (by go_cell) hb1
  have d2 : w1.cell? ⟨w.heap.size, 2, none⟩ = some (.int .i64 d) := keep (by go_cell) hb1
  have d3 : w1.cell? ⟨w.heap.size, 3, none⟩ = some (.int .i64 l) := keep (by go_cell) hb1
  have d4 : w1.cell? ⟨w.heap.size, 4, none⟩ = some (.int .i64 a) := keep (by go_cell) hb1
  clear hb1
  go_wp2_with fail
  refine (within_no _ _ _ _ (by omega)).mono ?_
  rintro e w1b ⟨rfl, rfl⟩
  go_wp2
  go_ret2
  exact ⟨rfl, by (repeat' (first | (with_reducible exact Below.refl _ _) | (with_reducible assumption) | (with_reducible refine Below.alloc ?_ ?_ _) | (with_reducible refine Below.drew ?_) | (with_reducible refine below_dn ?_) | (with_reducible refine Below.setCell ?_ ?_ _) | (with_reducible exact Nat.le_refl _) | omega | (simp only [World.size_alloc, World.size_setCell, World.size_drew]; omega) | (simp; omega) | (simp; done)))⟩
set_option maxRecDepth 100000 in
set_option maxHeartbeats 1000000 in
theorem split_len (c n d l a : Int) (ac an : Option Addr) (capc capn : Nat) (cs ns : List Int) (w : World) (hm : cs.length ≤ 9223372036854775807) (hm2 : ns.length ≤ 9223372036854775807) (h : OkB c n d l a) (k1 : 1 ≤ cs.length) (k2 : cs.length ≤ 64) (k3 : ns.length ≠ cs.length) :
    Calls Try.prog 24 #[bk c n d l a, .slice ac cs.length capc, .slice an ns.length capn] w fun e w' => e = .returned (.tuple #[.slice none 0 0, .int .i64 1]) ∧ Below w.heap.size w w' := by
  have HH := Lib.hid h; clear h
  have k4 : ((ns.length : Int) == (cs.length : Int)) = false := by simp; omega
  have K3 := Lib.hid k3
  clear k3
  go_enter Try.func24, Try.ntmps24
  go_wp2_with fail
  refine (valid_yes _ _ _ _ _ _ HH.out).mono ?_
  rintro e w1 ⟨rfl, hb1⟩
  have B1 : Below w.heap.size w w1 := bt (by (repeat' (first | (with_reducible exact Below.refl _ _) | (with_reducible assumption) | (with_reducible refine Below.alloc ?_ ?_ _) | (with_reducible refine Below.drew ?_) | (with_reducible refine below_dn ?_) | (with_reducible refine Below.setCell ?_ ?_ _) | (with_reducible exact Nat.le_refl _) | omega | (simp only [World.size_alloc, World.size_setCell, World.size_drew]; omega) | (simp; omega) | (simp; done)))) hb1
  have z1 : w.heap.size < w1.heap.size := by (have := hb1.size; (try simp at this); omega)
  have d0 : w1.cell? ⟨w.heap.size, 0, none⟩ = some (.int .i64 c) := keep (by go_cell) hb1
  have d1 : w1.cell? ⟨w.heap.size, 1, none⟩ = some (.int .i64 n) := keep (by go_cell) hb1
  have d2 : w1.cell? ⟨w.heap.size, 2, none⟩ = some (.int .i64 d) := keep (by go_cell) hb1
  have d3 : w1.cell? ⟨w.heap.size, 3, none⟩ = some (.int .i64 l) := keep (by go_cell) hb1
  have d4 : w1.cell? ⟨w.heap.size, 4, none⟩ = some (.int .i64 a) := keep (by go_cell) hb1
  clear hb1
  go_wp2_with fail
  refine (within_yes _ _ _ _ (by omega) (by omega)).mono ?_
  rintro e w1b ⟨rfl, rfl⟩
  go_wp2_with fail
  all_goals first
    | (exfalso; have := K3.out; omega)
    | skip
  go_wp2
  go_ret2
  exact ⟨rfl, by (repeat' (first | (with_reducible exact Below.refl _ _) | (with_reducible assumption) | (with_reducible refine Below.alloc ?_ ?_ _) | (with_reducible refine Below.drew ?_) | (with_reducible refine below_dn ?_) | (with_reducible refine Below.setCell ?_ ?_ _) | (with_reducible exact Nat.le_refl _) | omega | (simp only [World.size_alloc, World.size_setCell, World.size_drew]; omega) | (simp; omega) | (simp; done)))⟩
set_option maxRecDepth 100000 in
set_option maxHeartbeats 1000000 in
theorem split_sum1 (c n d l a : Int) (ac an : Option Addr) (capc capn : Nat) (cs ns : List Int) (w : World) (h : OkB c n d l a) (k1 : 1 ≤ cs.length) (k2 : cs.length ≤ 64) (k3 : ns.length = cs.length) (hc : IntsA .i64 w ac cs) (hn : IntsA .i64 w an ns) (hb : addB c cs = false) :
    Calls Try.prog 24 #[bk c n d l a, .slice ac cs.length capc, .slice an ns.length capn] w fun e w' => e = .returned (.tuple #[.slice none 0 0, .int .i64 1]) ∧ Below w.heap.size w w' := by
  have HH := Lib.hid h
  obtain ⟨g1, g2, g3, g4, g5, g6, g7, g8, g9, g10⟩ := h
  clear g8
  have HC := Lib.hid hc; have HN := Lib.hid hn
  have a1 := fun (W : World) (hb : Below w.heap.size w W) => addUp_any c cs ac capc W g1 g2 (HC.out.mono hb) (by omega)
  rw [hb] at a1
  have A1 := Lib.hid a1
  have K3 := Lib.hid k3
  rw [k3]
  clear a1 hb hc hn k3
  go_enter Try.func24, Try.ntmps24
  go_wp2_with fail
  refine (valid_yes _ _ _ _ _ _ HH.out).mono ?_
  rintro e w1 ⟨rfl, hb1⟩
  have B1 : Below w.heap.size w w1 := bt (by (repeat' (first | (with_reducible exact Below.refl _ _) | (with_reducible assumption) | (with_reducible refine Below.alloc ?_ ?_ _) | (with_reducible refine Below.drew ?_) | (with_reducible refine below_dn ?_) | (with_reducible refine Below.setCell ?_ ?_ _) | (with_reducible exact Nat.le_refl _) | omega | (simp only [World.size_alloc, World.size_setCell, World.size_drew]; omega) | (simp; omega) | (simp; done)))) hb1
  have z1 : w.heap.size < w1.heap.size := by (have := hb1.size; (try simp at this); omega)
  have d0 : w1.cell? ⟨w.heap.size, 0, none⟩ = some (.int .i64 c) := keep (by go_cell) hb1
  have d1 : w1.cell? ⟨w.heap.size, 1, none⟩ = some (.int .i64 n) := keep (by go_cell) hb1
  have d2 : w1.cell? ⟨w.heap.size, 2, none⟩ = some (.int .i64 d) := keep (by go_cell) hb1
  have d3 : w1.cell? ⟨w.heap.size, 3, none⟩ = some (.int .i64 l) := keep (by go_cell) hb1
  have d4 : w1.cell? ⟨w.heap.size, 4, none⟩ = some (.int .i64 a) := keep (by go_cell) hb1
  clear hb1
  go_wp2_with fail
  refine (within_yes _ _ _ _ (by omega) (by omega)).mono ?_
  rintro e w1b ⟨rfl, rfl⟩
  go_wp2_with fail
  refine (A1.out _ B1).mono ?_
  rintro e w1b ⟨rfl, rfl⟩
  go_wp2
  go_ret2
  exact ⟨rfl, by (repeat' (first | (with_reducible exact Below.refl _ _) | (with_reducible assumption) | (with_reducible refine Below.alloc ?_ ?_ _) | (with_reducible refine Below.drew ?_) | (with_reducible refine below_dn ?_) | (with_reducible refine Below.setCell ?_ ?_ _) | (with_reducible exact Nat.le_refl _) | omega | (simp only [World.size_alloc, World.size_setCell, World.size_drew]; omega) | (simp; omega) | (simp; done)))⟩
set_option maxRecDepth 100000 in
set_option maxHeartbeats 1000000 in
theorem split_sum2 (c n d l a : Int) (ac an : Option Addr) (capc capn : Nat) (cs ns : List Int) (w : World) (h : OkB c n d l a) (k1 : 1 ≤ cs.length) (k2 : cs.length ≤ 64) (k3 : ns.length = cs.length) (hc : IntsA .i64 w ac cs) (hn : IntsA .i64 w an ns) (hb1 : addB c cs = true) (hb2 : addB n ns = false) :
    Calls Try.prog 24 #[bk c n d l a, .slice ac cs.length capc, .slice an ns.length capn] w fun e w' => e = .returned (.tuple #[.slice none 0 0, .int .i64 1]) ∧ Below w.heap.size w w' := by
  have HH := Lib.hid h
  obtain ⟨g1, g2, g3, g4, g5, g6, g7, g8, g9, g10⟩ := h
  clear g8
  have HC := Lib.hid hc; have HN := Lib.hid hn
  have a1 := fun (W : World) (hb : Below w.heap.size w W) => addUp_any c cs ac capc W g1 g2 (HC.out.mono hb) (by omega)
  have a2 := fun (W : World) (hb : Below w.heap.size w W) => addUp_any n ns an capn W g3 (by omega) (HN.out.mono hb) (by omega)
  rw [hb1] at a1
  rw [hb2, k3] at a2
  have A1 := Lib.hid a1
  have A2 := Lib.hid a2
  have K3 := Lib.hid k3
  rw [k3]
  clear a1 a2 hb1 hb2 hc hn k3
  go_enter Try.func24, Try.ntmps24
  go_wp2_with fail
  refine (valid_yes _ _ _ _ _ _ HH.out).mono ?_
  rintro e w1 ⟨rfl, hb1⟩
  have B1 : Below w.heap.size w w1 := bt (by (repeat' (first | (with_reducible exact Below.refl _ _) | (with_reducible assumption) | (with_reducible refine Below.alloc ?_ ?_ _) | (with_reducible refine Below.drew ?_) | (with_reducible refine below_dn ?_) | (with_reducible refine Below.setCell ?_ ?_ _) | (with_reducible exact Nat.le_refl _) | omega | (simp only [World.size_alloc, World.size_setCell, World.size_drew]; omega) | (simp; omega) | (simp; done)))) hb1
  have z1 : w.heap.size < w1.heap.size := by (have := hb1.size; (try simp at this); omega)
  have d0 : w1.cell? ⟨w.heap.size, 0, none⟩ = some (.int .i64 c) := keep (by go_cell) hb1
  have d1 : w1.cell? ⟨w.heap.size, 1, none⟩ = some (.int .i64 n) := keep (by go_cell) hb1
  have d2 : w1.cell? ⟨w.heap.size, 2, none⟩ = some (.int .i64 d) := keep (by go_cell) hb1
  have d3 : w1.cell? ⟨w.heap.size, 3, none⟩ = some (.int .i64 l) := keep (by go_cell) hb1
  have d4 : w1.cell? ⟨w.heap.size, 4, none⟩ = some (.int .i64 a) := keep (by go_cell) hb1
  clear hb1
  go_wp2_with fail
  refine (within_yes _ _ _ _ (by omega) (by omega)).mono ?_
  rintro e w1b ⟨rfl, rfl⟩
  go_wp2_with fail
  refine (A1.out _ B1).mono ?_
  rintro e w1b ⟨rfl, rfl⟩
  go_wp2_with fail
  refine (A2.out _ B1).mono ?_
  rintro e w1b ⟨rfl, rfl⟩
  go_wp2
  go_ret2
  exact ⟨rfl, by (repeat' (first | (with_reducible exact Below.refl _ _) | (with_reducible assumption) | (with_reducible refine Below.alloc ?_ ?_ _) | (with_reducible refine Below.drew ?_) | (with_reducible refine below_dn ?_) | (with_reducible refine Below.setCell ?_ ?_ _) | (with_reducible exact Nat.le_refl _) | omega | (simp only [World.size_alloc, World.size_setCell, World.size_drew]; omega) | (simp; omega) | (simp; done)))⟩
set_option maxRecDepth 100000 in
set_option maxHeartbeats 1000000 in
theorem splitref_bad (c n d l a : Int) (ac an : Option Addr) (capc capn : Nat) (cs ns : List Int) (w : World) (hm : cs.length ≤ 9223372036854775807) (hm2 : ns.length ≤ 9223372036854775807) (h : ¬ OkB c n d l a) :
    Calls Try.prog 26 #[bk c n d l a, .slice ac cs.length capc, .slice an ns.length capn] w fun e w' => e = .returned (par (.slice none 0 0) 1) ∧ Below w.heap.size w w' := by
  have HH := Lib.hid h; clear h
  go_enter Try.func26, Try.ntmps26
  go_wp2_with fail
  refine (validref_no _ _ _ _ _ _ HH.out).mono ?_
  rintro e w1 ⟨rfl, hb1⟩
  have B1 : Below w.heap.size w w1 := bt (by (repeat' (first | (with_reducible exact Below.refl _ _) | (with_reducible assumption) | (with_reducible refine Below.alloc ?_ ?_ _) | (with_reducible refine Below.drew ?_) | (with_reducible refine below_dn ?_) | (with_reducible refine Below.setCell ?_ ?_ _) | (with_reducible exact Nat.le_refl _) | omega | (simp only [World.size_alloc, World.size_setCell, World.size_drew]; omega) | (simp; omega) | (simp; done)))) hb1
  have z1 : w.heap.size < w1.heap.size := by (have := hb1.size; (try simp at this); omega)
  have d0 : w1.cell? ⟨w.heap.size, 0, none⟩ = some (.int .i64 c) := keep (by go_cell) hb1
  have d1 : w1.cell? ⟨w.heap.size, 1, none⟩ = some (.int .i64 n) := keep (by go_cell) hb1
  have d2 : w1.cell? ⟨w.heap.size, 2, none⟩ = some (.int .i64 d) := keep (by go_cell) hb1
  have d3 : w1.cell? ⟨w.heap.size, 3, none⟩ = some (.int .i64 l) := keep (by go_cell) hb1
  have d4 : w1.cell? ⟨w.heap.size, 4, none⟩ = some (.int .i64 a) := keep (by go_cell) hb1
  have r0 : w1.cell? ⟨w.heap.size + 1, 0, none⟩ = some (.slice none 0 0) := keep (by go_cell) hb1
  have r1 : w1.cell? ⟨w.heap.size + 1, 1, none⟩ = some (.int .i64 0) := keep (by go_cell) hb1
  have z2 : w.heap.size + 1 < w1.heap.size := by (have := hb1.size; (try simp at this); omega)
  have rf : ∀ o, w1.frozen? ⟨w.heap.size + 1, o, none⟩ = false := fun o => (hb1.frozen (p := ⟨w.heap.size + 1, o, none⟩) (by simp)).trans (by simp [go_sem])
  clear hb1
  go_wp2
  refine bodyPost_ret (v := par (.slice none 0 0) 1) (by simp [results, Try.results26, go_sem, r0, r1, z2]; try rfl) rfl ⟨rfl, by (repeat' (first | (with_reducible exact Below.refl _ _) | (with_reducible assumption) | (with_reducible refine Below.alloc ?_ ?_ _) | (with_reducible refine Below.drew ?_) | (with_reducible refine below_dn ?_) | (with_reducible refine Below.setCell ?_ ?_ _) | (with_reducible exact Nat.le_refl _) | omega | (simp only [World.size_alloc, World.size_setCell, World.size_drew]; omega) | (simp; omega) | (simp; done)))⟩
set_option maxRecDepth 100000 in
set_option maxHeartbeats 1000000 in
theorem splitref_few (c n d l a : Int) (ac an : Option Addr) (capc capn : Nat) (cs ns : List Int) (w : World) (hm : cs.length ≤ 9223372036854775807) (hm2 : ns.length ≤ 9223372036854775807) (h : OkB c n d l a) (k : cs.length < 1) :
    Calls Try.prog 26 #[bk c n d l a, .slice ac cs.length capc, .slice an ns.length capn] w fun e w' => e = .returned (par (.slice none 0 0) 1) ∧ Below w.heap.size w w' := by
  have HH := Lib.hid h; clear h
  go_enter Try.func26, Try.ntmps26
  go_wp2_with fail
  refine (validref_yes _ _ _ _ _ _ HH.out).mono ?_
  rintro e w1 ⟨rfl, hb1⟩
  have B1 : Below w.heap.size w w1 := bt (by (repeat' (first | (with_reducible exact Below.refl _ _) | (with_reducible assumption) | (with_reducible refine Below.alloc ?_ ?_ _) | (with_reducible refine Below.drew ?_) | (with_reducible refine below_dn ?_) | (with_reducible refine Below.setCell ?_ ?_ _) | (with_reducible exact Nat.le_refl _) | omega | (simp only [World.size_alloc, World.size_setCell, World.size_drew]; omega) | (simp; omega) | (simp; done)))) hb1
  have z1 : w.heap.size < w1.heap.size := by (have := hb1.size; (try simp at this); omega)
  have d0 : w1.cell? ⟨w.heap.size, 0, none⟩ = some (.int .i64 c) := keep (by go_cell) hb1
  have d1 : w1.cell? ⟨w.heap.size, 1, none⟩ = some (.int .i64 n) := keep (by go_cell) hb1
  have d2 : w1.cell? ⟨w.heap.size, 2, none⟩ = some (.int .i64 d) := keep (by go_cell) hb1
  have d3 : w1.cell? ⟨w.heap.size, 3, none⟩ = some (.int .i64 l) := keep (by go_cell) hb1
  have d4 : w1.cell? ⟨w.heap.size, 4, none⟩ = some (.int .i64 a) := keep (by go_cell) hb1
  have r0 : w1.cell? ⟨w.heap.size + 1, 0, none⟩ = some (.slice none 0 0) := keep (by go_cell) hb1
  have r1 : w1.cell? ⟨w.heap.size + 1, 1, none⟩ = some (.int .i64 0) := keep (by go_cell) hb1
  have z2 : w.heap.size + 1 < w1.heap.size := by (have := hb1.size; (try simp at this); omega)
  have rf : ∀ o, w1.frozen? ⟨w.heap.size + 1, o, none⟩ = false := fun o => (hb1.frozen (p := ⟨w.heap.size + 1, o, none⟩) (by simp)).trans (by simp [go_sem])
  clear hb1
  go_wp2
  refine bodyPost_ret (v := par (.slice none 0 0) 1) (by simp [results, Try.results26, go_sem, r0, r1, z2]; try rfl) rfl ⟨rfl, by (repeat' (first | (with_reducible exact Below.refl _ _) | (with_reducible assumption) | (with_reducible refine Below.alloc ?_ ?_ _) | (with_reducible refine Below.drew ?_) | (with_reducible refine below_dn ?_) | (with_reducible refine Below.setCell ?_ ?_ _) | (with_reducible exact Nat.le_refl _) | omega | (simp only [World.size_alloc, World.size_setCell, World.size_drew]; omega) | (simp; omega) | (simp; done)))⟩
set_option maxRecDepth 100000 in
set_option maxHeartbeats 1000000 in
theorem splitref_many (c n d l a : Int) (ac an : Option Addr) (capc capn : Nat) (cs ns : List Int) (w : World) (hm : cs.length ≤ 9223372036854775807) (hm2 : ns.length ≤ 9223372036854775807) (h : OkB c n d l a) (k : 64 < cs.length) :
    Calls Try.prog 26 #[bk c n d l a, .slice ac cs.length capc, .slice an ns.length capn] w fun e w' => e = .returned (par (.slice none 0 0) 1) ∧ Below w.heap.size w w' := by
  have HH := Lib.hid h; clear h
  have h1 : 1 ≤ cs.length := by omega
  go_enter Try.func26, Try.ntmps26
  go_wp2_with fail
  refine (validref_yes _ _ _ _ _ _ HH.out).mono ?_
  rintro e w1 ⟨rfl, hb1⟩
  have B1 : Below w.heap.size w w1 := bt (by (repeat' (first | (with_reducible exact Below.refl _ _) | (with_reducible assumption) | (with_reducible refine Below.alloc ?_ ?_ _) | (with_reducible refine Below.drew ?_) | (with_reducible refine below_dn ?_) | (with_reducible refine Below.setCell ?_ ?_ _) | (with_reducible exact Nat.le_refl _) | omega | (simp only [World.size_alloc, World.size_setCell, World.size_drew]; omega) | (simp; omega) | (simp; done)))) hb1
  have z1 : w.heap.size < w1.heap.size := by (have := hb1.size; (try simp at this); omega)
  have d0 : w1.cell? ⟨w.heap.size, 0, none⟩ = some (.int .i64 c) := keep (by go_cell) hb1
  have d1 : w1.cell? ⟨w.heap.size, 1, none⟩ = some (.int .i64 n) := keep (by go_cell) hb1
  have d2 : w1.cell? ⟨w.heap.size, 2, none⟩ = some (.int .i64 d) := keep (by go_cell) hb1
  have d3 : w1.cell? ⟨w.heap.size, 3, none⟩ = some (.int .i64 l) := keep (by go_cell) hb1
  have d4 : w1.cell? ⟨w.heap.size, 4, none⟩ = some (.int .i64 a) := keep (by go_cell) hb1
  have r0 : w1.cell? ⟨w.heap.size + 1, 0, none⟩ = some (.slice none 0 0) := keep (by go_cell) hb1
  have r1 : w1.cell? ⟨w.heap.size + 1, 1, none⟩ = some (.int .i64 0) := keep (by go_cell) hb1
  have z2 : w.heap.size + 1 < w1.heap.size := by (have := hb1.size; (try simp at this); omega)
  have rf : ∀ o, w1.frozen? ⟨w.heap.size + 1, o, none⟩ = false := fun o => (hb1.frozen (p := ⟨w.heap.size + 1, o, none⟩) (by simp)).trans (by simp [go_sem])
  clear hb1
  go_wp2
  refine bodyPost_ret (v := par (.slice none 0 0) 1) (by simp [results, Try.results26, go_sem, r0, r1, z2]; try rfl) rfl ⟨rfl, by (repeat' (first | (with_reducible exact Below.refl _ _) | (with_reducible assumption) | (with_reducible refine Below.alloc ?_ ?_ _) | (with_reducible refine Below.drew ?_) | (with_reducible refine below_dn ?_) | (with_reducible refine Below.setCell ?_ ?_ _) | (with_reducible exact Nat.le_refl _) | omega | (simp only [World.size_alloc, World.size_setCell, World.size_drew]; omega) | (simp; omega) | (simp; done)))⟩
set_option maxRecDepth 100000 in
set_option maxHeartbeats 1000000 in
theorem splitref_len (c n d l a : Int) (ac an : Option Addr) (capc capn : Nat) (cs ns : List Int) (w : World) (hm : cs.length ≤ 9223372036854775807) (hm2 : ns.length ≤ 9223372036854775807) (h : OkB c n d l a) (k1 : 1 ≤ cs.length) (k2 : cs.length ≤ 64) (k3 : ns.length ≠ cs.length) :
    Calls Try.prog 26 #[bk c n d l a, .slice ac cs.length capc, .slice an ns.length capn] w fun e w' => e = .returned (par (.slice none 0 0) 1) ∧ Below w.heap.size w w' := by
  have HH := Lib.hid h; clear h
  have k4 : ((ns.length : Int) == (cs.length : Int)) = false := by simp; omega
  have K3 := Lib.hid k3
  clear k3
  go_enter Try.func26, Try.ntmps26
  go_wp2_with fail
  refine (validref_yes _ _ _ _ _ _ HH.out).mono ?_
  rintro e w1 ⟨rfl, hb1⟩
  have B1 : Below w.heap.size w w1 := bt (by (repeat' (first | (with_reducible exact Below.refl _ _) | (with_reducible assumption) | (with_reducible refine Below.alloc ?_ ?_ _) | (with_reducible refine Below.drew ?_) | (with_reducible refine below_dn ?_) | (with_reducible refine Below.setCell ?_ ?_ _) | (with_reducible exact Nat.le_refl _) | omega | (simp only [World.size_alloc, World.size_setCell, World.size_drew]; omega) | (simp; omega) | (simp; done)))) hb1
  have z1 : w.heap.size < w1.heap.size := by (have := hb1.size; (try simp at this); omega)
  have d0 : w1.cell? ⟨w.heap.size, 0, none⟩ = some (.int .i64 c) := keep (by go_cell) hb1
  have d1 : w1.cell? ⟨w.heap.size, 1, none⟩ = some (.int .i64 n) := keep (by go_cell) hb1
  have d2 : w1.cell? ⟨w.heap.size, 2, none⟩ = some (.int .i64 d) := keep (by go_cell) hb1
  have d3 : w1.cell? ⟨w.heap.size, 3, none⟩ = some (.int .i64 l) := keep (by go_cell) hb1
  have d4 : w1.cell? ⟨w.heap.size, 4, none⟩ = some (.int .i64 a) := keep (by go_cell) hb1
  have r0 : w1.cell? ⟨w.heap.size + 1, 0, none⟩ = some (.slice none 0 0) := keep (by go_cell) hb1
  have r1 : w1.cell? ⟨w.heap.size + 1, 1, none⟩ = some (.int .i64 0) := keep (by go_cell) hb1
  have z2 : w.heap.size + 1 < w1.heap.size := by (have := hb1.size; (try simp at this); omega)
  have rf : ∀ o, w1.frozen? ⟨w.heap.size + 1, o, none⟩ = false := fun o => (hb1.frozen (p := ⟨w.heap.size + 1, o, none⟩) (by simp)).trans (by simp [go_sem])
  clear hb1
  go_wp2_with fail
  all_goals first
    | (exfalso; have := K3.out; omega)
    | skip
  go_wp2
  refine bodyPost_ret (v := par (.slice none 0 0) 1) (by simp [results, Try.results26, go_sem, r0, r1, z2]; try rfl) rfl ⟨rfl, by (repeat' (first | (with_reducible exact Below.refl _ _) | (with_reducible assumption) | (with_reducible refine Below.alloc ?_ ?_ _) | (with_reducible refine Below.drew ?_) | (with_reducible refine below_dn ?_) | (with_reducible refine Below.setCell ?_ ?_ _) | (with_reducible exact Nat.le_refl _) | omega | (simp only [World.size_alloc, World.size_setCell, World.size_drew]; omega) | (simp; omega) | (simp; done)))⟩
set_option maxRecDepth 100000 in
set_option maxHeartbeats 1000000 in
theorem splitref_sum1 (c n d l a : Int) (ac an : Option Addr) (capc capn : Nat) (cs ns : List Int) (w : World) (h : OkB c n d l a) (k1 : 1 ≤ cs.length) (k2 : cs.length ≤ 64) (k3 : ns.length = cs.length) (hc : IntsA .i64 w ac cs) (hn : IntsA .i64 w an ns) (hb : addB c cs = false) :
    Calls Try.prog 26 #[bk c n d l a, .slice ac cs.length capc, .slice an ns.length capn] w fun e w' => e = .returned (par (.slice none 0 0) 1) ∧ Below w.heap.size w w' := by
  have HH := Lib.hid h
  obtain ⟨g1, g2, g3, g4, g5, g6, g7, g8, g9, g10⟩ := h
  clear g8
  have HC := Lib.hid hc; have HN := Lib.hid hn
  have a1 := fun (W : World) (hb : Below w.heap.size w W) => sums_any c cs ac capc W g1 g2 (HC.out.mono hb) (by omega)
  rw [hb] at a1
  have A1 := Lib.hid a1
  have K3 := Lib.hid k3
  rw [k3]
  clear a1 hb hc hn k3
  go_enter Try.func26, Try.ntmps26
  go_wp2_with fail
  refine (validref_yes _ _ _ _ _ _ HH.out).mono ?_
  rintro e w1 ⟨rfl, hb1⟩
  have B1 : Below w.heap.size w w1 := bt (by (repeat' (first | (with_reducible exact Below.refl _ _) | (with_reducible assumption) | (with_reducible refine Below.alloc ?_ ?_ _) | (with_reducible refine Below.drew ?_) | (with_reducible refine below_dn ?_) | (with_reducible refine Below.setCell ?_ ?_ _) | (with_reducible exact Nat.le_refl _) | omega | (simp only [World.size_alloc, World.size_setCell, World.size_drew]; omega) | (simp; omega) | (simp; done)))) hb1
  have z1 : w.heap.size < w1.heap.size := by (have := hb1.size; (try simp at this); omega)
  have d0 : w1.cell? ⟨w.heap.size, 0, none⟩ = some (.int .i64 c) := keep (by go_cell) hb1
  have d1 : w1.cell? ⟨w.heap.size, 1, none⟩ = some (.int .i64 n) := keep (by go_cell) hb1
  have d2 : w1.cell? ⟨w.heap.size, 2, none⟩ = some (.int .i64 d) := keep (by go_cell) hb1
  have d3 : w1.cell? ⟨w.heap.size, 3, none⟩ = some (.int .i64 l) := keep (by go_cell) hb1
  have d4 : w1.cell? ⟨w.heap.size, 4, none⟩ = some (.int .i64 a) := keep (by go_cell) hb1
  have r0 : w1.cell? ⟨w.heap.size + 1, 0, none⟩ = some (.slice none 0 0) := keep (by go_cell) hb1
  have r1 : w1.cell? ⟨w.heap.size + 1, 1, none⟩ = some (.int .i64 0) := keep (by go_cell) hb1
  have z2 : w.heap.size + 1 < w1.heap.size := by (have := hb1.size; (try simp at this); omega)
  have rf : ∀ o, w1.frozen? ⟨w.heap.size + 1, o, none⟩ = false := fun o => (hb1.frozen (p := ⟨w.heap.size + 1, o, none⟩) (by simp)).trans (by simp [go_sem])
  clear hb1
  go_wp2_with fail
  refine (A1.out _ B1).mono ?_
  rintro e w1b ⟨rfl, rfl⟩
  go_wp2
  refine bodyPost_ret (v := par (.slice none 0 0) 1) (by simp [results, Try.results26, go_sem, r0, r1, z2]; try rfl) rfl ⟨rfl, by (repeat' (first | (with_reducible exact Below.refl _ _) | (with_reducible assumption) | (with_reducible refine Below.alloc ?_ ?_ _) | (with_reducible refine Below.drew ?_) | (with_reducible refine below_dn ?_) | (with_reducible refine Below.setCell ?_ ?_ _) | (with_reducible exact Nat.le_refl _) | omega | (simp only [World.size_alloc, World.size_setCell, World.size_drew]; omega) | (simp; omega) | (simp; done)))⟩
set_option maxRecDepth 100000 in
set_option maxHeartbeats 1000000 in
theorem splitref_sum2 (c n d l a : Int) (ac an : Option Addr) (capc capn : Nat) (cs ns : List Int) (w : World) (h : OkB c n d l a) (k1 : 1 ≤ cs.length) (k2 : cs.length ≤ 64) (k3 : ns.length = cs.length) (hc : IntsA .i64 w ac cs) (hn : IntsA .i64 w an ns) (hb1 : addB c cs = true) (hb2 : addB n ns = false) :
    Calls Try.prog 26 #[bk c n d l a, .slice ac cs.length capc, .slice an ns.length capn] w fun e w' => e = .returned (par (.slice none 0 0) 1) ∧ Below w.heap.size w w' := by
  have HH := Lib.hid h
  obtain ⟨g1, g2, g3, g4, g5, g6, g7, g8, g9, g10⟩ := h
  clear g8
  have HC := Lib.hid hc; have HN := Lib.hid hn
  have a1 := fun (W : World) (hb : Below w.heap.size w W) => sums_any c cs ac capc W g1 g2 (HC.out.mono hb) (by omega)
  have a2 := fun (W : World) (hb : Below w.heap.size w W) => sums_any n ns an capn W g3 (by omega) (HN.out.mono hb) (by omega)
  rw [hb1] at a1
  rw [hb2, k3] at a2
  have A1 := Lib.hid a1
  have A2 := Lib.hid a2
  have K3 := Lib.hid k3
  rw [k3]
  clear a1 a2 hb1 hb2 hc hn k3
  go_enter Try.func26, Try.ntmps26
  go_wp2_with fail
  refine (validref_yes _ _ _ _ _ _ HH.out).mono ?_
  rintro e w1 ⟨rfl, hb1⟩
  have B1 : Below w.heap.size w w1 := bt (by (repeat' (first | (with_reducible exact Below.refl _ _) | (with_reducible assumption) | (with_reducible refine Below.alloc ?_ ?_ _) | (with_reducible refine Below.drew ?_) | (with_reducible refine below_dn ?_) | (with_reducible refine Below.setCell ?_ ?_ _) | (with_reducible exact Nat.le_refl _) | omega | (simp only [World.size_alloc, World.size_setCell, World.size_drew]; omega) | (simp; omega) | (simp; done)))) hb1
  have z1 : w.heap.size < w1.heap.size := by (have := hb1.size; (try simp at this); omega)
  have d0 : w1.cell? ⟨w.heap.size, 0, none⟩ = some (.int .i64 c) := keep (by go_cell) hb1
  have d1 : w1.cell? ⟨w.heap.size, 1, none⟩ = some (.int .i64 n) := keep (by go_cell) hb1
  have d2 : w1.cell? ⟨w.heap.size, 2, none⟩ = some (.int .i64 d) := keep (by go_cell) hb1
  have d3 : w1.cell? ⟨w.heap.size, 3, none⟩ = some (.int .i64 l) := keep (by go_cell) hb1
  have d4 : w1.cell? ⟨w.heap.size, 4, none⟩ = some (.int .i64 a) := keep (by go_cell) hb1
  have r0 : w1.cell? ⟨w.heap.size + 1, 0, none⟩ = some (.slice none 0 0) := keep (by go_cell) hb1
  have r1 : w1.cell? ⟨w.heap.size + 1, 1, none⟩ = some (.int .i64 0) := keep (by go_cell) hb1
  have z2 : w.heap.size + 1 < w1.heap.size := by (have := hb1.size; (try simp at this); omega)
  have rf : ∀ o, w1.frozen? ⟨w.heap.size + 1, o, none⟩ = false := fun o => (hb1.frozen (p := ⟨w.heap.size + 1, o, none⟩) (by simp)).trans (by simp [go_sem])
  clear hb1
  go_wp2_with fail
  refine (A1.out _ B1).mono ?_
  rintro e w1b ⟨rfl, rfl⟩
  go_wp2_with fail
  refine (A2.out _ B1).mono ?_
  rintro e w1b ⟨rfl, rfl⟩
  go_wp2
  refine bodyPost_ret (v := par (.slice none 0 0) 1) (by simp [results, Try.results26, go_sem, r0, r1, z2]; try rfl) rfl ⟨rfl, by (repeat' (first | (with_reducible exact Below.refl _ _) | (with_reducible assumption) | (with_reducible refine Below.alloc ?_ ?_ _) | (with_reducible refine Below.drew ?_) | (with_reducible refine below_dn ?_) | (with_reducible refine Below.setCell ?_ ?_ _) | (with_reducible exact Nat.le_refl _) | omega | (simp only [World.size_alloc, World.size_setCell, World.size_drew]; omega) | (simp; omega) | (simp; done)))⟩
end Go.Proofs.Ytigalbgailnicaa
