import Derived.Test.YtnojnfmhinjcpaaP7
import Derived.Test.YtnojnfmhinjcpaaG
namespace Go.Proofs.Ytnojnfmhinjcpaa
set_option linter.unusedVariables false
set_option linter.unusedSimpArgs false
open Go.RowKit Go.Sort
set_option maxHeartbeats 2000000 in
theorem contains_out (base d p q s : Int) (a : Option Addr) (cap : Nat) (ps : List (Int × Int)) (a2 : Option Addr) (cap2 : Nat) (st : List Int) (a3 : Option Addr) (cap3 : Nat) (wd : List Int) (w : World) (hs : ∀ W, Sane W)
    (hp : PacesA w a ps) (hm : ps.length ≤ 9223372036854775807) (h2 : IntsA .u32 w a2 st) (hm2 : st.length ≤ 9223372036854775807) (h3 : IntsA .u16 w a3 wd) (hm3 : wd.length ≤ 9223372036854775807) (hh : ¬ (honB ps d = true ∧ validB p q = true ∧ 0 ≤ d ∧ d ≤ 100000 ∧ p ≤ s ∧ s ≤ q ∧ st.length ≤ 100)) :
    Calls Try.prog 7 #[.int .i64 base, .slice a ps.length cap, .int .i64 d, per p q, .int .i64 s, .slice a2 st.length cap2, .slice a3 wd.length cap3] w fun e w' => e = .returned (.bool true) ∧ Below w.heap.size w w' := by
  have HS := Lib.hid hs; clear hs
  have HP := Lib.hid hp; clear hp
  have H2 := Lib.hid h2; clear h2
  have H3 := Lib.hid h3; clear h3
  obtain ⟨r1, e1⟩ : ∃ r, honB ps d = r := ⟨_, rfl⟩
  obtain ⟨r2, e2⟩ : ∃ r, validB p q = r := ⟨_, rfl⟩
  rw [e1, e2] at hh
  have E1 := Lib.hid e1; have E2 := Lib.hid e2
  clear e1 e2
  have hh' : r1 = true → r2 = true → 0 ≤ d → d ≤ 100000 → p ≤ s → s ≤ q → 100 < st.length := fun a b c e f g => by
    exact Nat.lt_of_not_le fun z => hh ⟨a, b, c, e, f, g, z⟩
  have HH := Lib.hid hh'
  clear hh hh'
  go_enter Try.func7, Try.ntmps7
  go_wp2_with fail
  refine (honestref_any ps a cap d _ (HP.out.mono (by (repeat' (first | (with_reducible exact Below.refl _ _) | (with_reducible assumption) | (with_reducible refine Below.alloc ?_ ?_ _) | (with_reducible refine Below.drew ?_) | (with_reducible refine below_dn ?_) | (with_reducible refine Below.setCell ?_ ?_ _) | (with_reducible exact Nat.le_refl _) | omega | (simp only [World.size_alloc, World.size_setCell, World.size_drew]; omega) | (simp; omega) | (simp; done))))) hm).mono ?_
  rintro e w0 ⟨rfl, rfl⟩
  rw [E1.out]
  go_wp2_with fail
  refine (valid_ref _ _ _).mono ?_
  rintro e w1 ⟨rfl, hb1⟩
  rw [E2.out]
  have B1 : Below w.heap.size w w1 := bt (by (repeat' (first | (with_reducible exact Below.refl _ _) | (with_reducible assumption) | (with_reducible refine Below.alloc ?_ ?_ _) | (with_reducible refine Below.drew ?_) | (with_reducible refine below_dn ?_) | (with_reducible refine Below.setCell ?_ ?_ _) | (with_reducible exact Nat.le_refl _) | omega | (simp only [World.size_alloc, World.size_setCell, World.size_drew]; omega) | (simp; omega) | (simp; done)))) hb1
  have s1 : w.heap.size ≤ w1.heap.size := B1.size
  have z1_p : w.heap.size < w1.heap.size := by (have := hb1.size; (try simp at this); omega)
  have x1_p : w.heap.size ≤ w1.heap.size := Nat.le_of_lt z1_p
  have d1_p_0 : w1.cell? ⟨w.heap.size, 0, none⟩ = some (.int .i64 p) := keep (by go_cell) hb1
  have d1_p_1 : w1.cell? ⟨w.heap.size, 1, none⟩ = some (.int .i64 q) := keep (by go_cell) hb1
  clear hb1
  cases r1 <;> cases r2
  all_goals
    go_wp2_with fail
    all_goals
      first
    | (exfalso; have := HH.out (by trivial) (by trivial) (by omega) (by omega) (by omega) (by omega); omega)
    | (
      refine (HS.out _).mono ?_
      rintro e w2 ⟨rfl, hb2⟩
      have B2 : Below w.heap.size w w2 := bt (by (repeat' (first | (with_reducible exact Below.refl _ _) | (with_reducible assumption) | (with_reducible refine Below.alloc ?_ ?_ _) | (with_reducible refine Below.drew ?_) | (with_reducible refine below_dn ?_) | (with_reducible refine Below.setCell ?_ ?_ _) | (with_reducible exact Nat.le_refl _) | omega | (simp only [World.size_alloc, World.size_setCell, World.size_drew]; omega) | (simp; omega) | (simp; done)))) hb2
      have s2 : w.heap.size ≤ w2.heap.size := B2.size
      have z2_p : w.heap.size < w2.heap.size := by (have := hb2.size; (try simp at this); omega)
      have x2_p : w.heap.size ≤ w2.heap.size := Nat.le_of_lt z2_p
      have d2_p_0 : w2.cell? ⟨w.heap.size, 0, none⟩ = some (.int .i64 p) := keep (by go_cell) hb2
      have d2_p_1 : w2.cell? ⟨w.heap.size, 1, none⟩ = some (.int .i64 q) := keep (by go_cell) hb2
      clear hb2 d1_p_0 d1_p_1
      go_wp2
      go_ret
      exact ⟨rfl, by (repeat' (first | (with_reducible exact Below.refl _ _) | (with_reducible assumption) | (with_reducible refine Below.alloc ?_ ?_ _) | (with_reducible refine Below.drew ?_) | (with_reducible refine below_dn ?_) | (with_reducible refine Below.setCell ?_ ?_ _) | (with_reducible exact Nat.le_refl _) | omega | (simp only [World.size_alloc, World.size_setCell, World.size_drew]; omega) | (simp; omega) | (simp; done)))⟩)
set_option maxHeartbeats 2000000 in
theorem contains_end (base d p q s : Int) (a : Option Addr) (cap : Nat) (ps : List (Int × Int)) (a2 : Option Addr) (cap2 : Nat) (st : List Int) (a3 : Option Addr) (cap3 : Nat) (wd : List Int) (w : World) (hs : ∀ W, Sane W)
    (hp : PacesA w a ps) (hm : ps.length ≤ 9223372036854775807) (h2 : IntsA .u32 w a2 st) (hm2 : st.length ≤ 9223372036854775807) (h3 : IntsA .u16 w a3 wd) (hm3 : wd.length ≤ 9223372036854775807) (hh : honB ps d = true ∧ validB p q = true ∧ 0 ≤ d ∧ d ≤ 100000 ∧ p ≤ s ∧ s ≤ q ∧ st.length ≤ 100) (ne : showE base s ps ≠ 0) :
    Calls Try.prog 7 #[.int .i64 base, .slice a ps.length cap, .int .i64 d, per p q, .int .i64 s, .slice a2 st.length cap2, .slice a3 wd.length cap3] w fun e w' => e = .returned (.bool true) ∧ Below w.heap.size w w' := by
  have HS := Lib.hid hs; clear hs
  have HP := Lib.hid hp; clear hp
  have H2 := Lib.hid h2; clear h2
  have H3 := Lib.hid h3; clear h3
  obtain ⟨g1, g2, g3, g4, g5, g6, g7⟩ := hh
  have E1 := Lib.hid g1; have E2 := Lib.hid g2
  have g2' : 0 ≤ p ∧ p ≤ q ∧ q ≤ 1099511627776 := by simpa [validB] using g2
  clear g1 g2
  have c1 := fun (W : World) (hb : Below w.heap.size w W) => show_fn base s a cap ps W (HP.out.mono hb) hm
  obtain ⟨N, hN⟩ : ∃ z, showN base s ps = z := ⟨_, rfl⟩
  obtain ⟨E, hE⟩ : ∃ z, showE base s ps = z := ⟨_, rfl⟩
  rw [hN, hE] at c1
  rw [hE] at ne
  have C1 := Lib.hid c1
  clear c1 hN hE
  go_enter Try.func7, Try.ntmps7
  go_wp2_with fail
  refine (honestref_any ps a cap d _ (HP.out.mono (by (repeat' (first | (with_reducible exact Below.refl _ _) | (with_reducible assumption) | (with_reducible refine Below.alloc ?_ ?_ _) | (with_reducible refine Below.drew ?_) | (with_reducible refine below_dn ?_) | (with_reducible refine Below.setCell ?_ ?_ _) | (with_reducible exact Nat.le_refl _) | omega | (simp only [World.size_alloc, World.size_setCell, World.size_drew]; omega) | (simp; omega) | (simp; done))))) hm).mono ?_
  rintro e w0 ⟨rfl, rfl⟩
  rw [E1.out]
  go_wp2_with fail
  refine (valid_ref _ _ _).mono ?_
  rintro e w1 ⟨rfl, hb1⟩
  rw [E2.out]
  have B1 : Below w.heap.size w w1 := bt (by (repeat' (first | (with_reducible exact Below.refl _ _) | (with_reducible assumption) | (with_reducible refine Below.alloc ?_ ?_ _) | (with_reducible refine Below.drew ?_) | (with_reducible refine below_dn ?_) | (with_reducible refine Below.setCell ?_ ?_ _) | (with_reducible exact Nat.le_refl _) | omega | (simp only [World.size_alloc, World.size_setCell, World.size_drew]; omega) | (simp; omega) | (simp; done)))) hb1
  have s1 : w.heap.size ≤ w1.heap.size := B1.size
  have z1_p : w.heap.size < w1.heap.size := by (have := hb1.size; (try simp at this); omega)
  have x1_p : w.heap.size ≤ w1.heap.size := Nat.le_of_lt z1_p
  have d1_p_0 : w1.cell? ⟨w.heap.size, 0, none⟩ = some (.int .i64 p) := keep (by go_cell) hb1
  have d1_p_1 : w1.cell? ⟨w.heap.size, 1, none⟩ = some (.int .i64 q) := keep (by go_cell) hb1
  clear hb1
  go_wp2_with fail
  refine (C1.out _ (by (repeat' (first | (with_reducible exact Below.refl _ _) | (with_reducible assumption) | (with_reducible refine Below.alloc ?_ ?_ _) | (with_reducible refine Below.drew ?_) | (with_reducible refine below_dn ?_) | (with_reducible refine Below.setCell ?_ ?_ _) | (with_reducible exact Nat.le_refl _) | omega | (simp only [World.size_alloc, World.size_setCell, World.size_drew]; omega) | (simp; omega) | (simp; done))))).mono ?_
  rintro e w2 ⟨rfl, hb2⟩
  have B2 : Below w.heap.size w w2 := bt (by (repeat' (first | (with_reducible exact Below.refl _ _) | (with_reducible assumption) | (with_reducible refine Below.alloc ?_ ?_ _) | (with_reducible refine Below.drew ?_) | (with_reducible refine below_dn ?_) | (with_reducible refine Below.setCell ?_ ?_ _) | (with_reducible exact Nat.le_refl _) | omega | (simp only [World.size_alloc, World.size_setCell, World.size_drew]; omega) | (simp; omega) | (simp; done)))) hb2
  have s2 : w.heap.size ≤ w2.heap.size := B2.size
  have z2_p : w.heap.size < w2.heap.size := by (have := hb2.size; (try simp at this); omega)
  have x2_p : w.heap.size ≤ w2.heap.size := Nat.le_of_lt z2_p
  have d2_p_0 : w2.cell? ⟨w.heap.size, 0, none⟩ = some (.int .i64 p) := keep (by go_cell) hb2
  have d2_p_1 : w2.cell? ⟨w.heap.size, 1, none⟩ = some (.int .i64 q) := keep (by go_cell) hb2
  clear hb2 d1_p_0 d1_p_1
  go_wp2_with fail
  refine (HS.out _).mono ?_
  rintro e w3 ⟨rfl, hb3⟩
  have B3 : Below w.heap.size w w3 := bt (by (repeat' (first | (with_reducible exact Below.refl _ _) | (with_reducible assumption) | (with_reducible refine Below.alloc ?_ ?_ _) | (with_reducible refine Below.drew ?_) | (with_reducible refine below_dn ?_) | (with_reducible refine Below.setCell ?_ ?_ _) | (with_reducible exact Nat.le_refl _) | omega | (simp only [World.size_alloc, World.size_setCell, World.size_drew]; omega) | (simp; omega) | (simp; done)))) hb3
  have s3 : w.heap.size ≤ w3.heap.size := B3.size
  have z3_p : w.heap.size < w3.heap.size := by (have := hb3.size; (try simp at this); omega)
  have x3_p : w.heap.size ≤ w3.heap.size := Nat.le_of_lt z3_p
  have d3_p_0 : w3.cell? ⟨w.heap.size, 0, none⟩ = some (.int .i64 p) := keep (by go_cell) hb3
  have d3_p_1 : w3.cell? ⟨w.heap.size, 1, none⟩ = some (.int .i64 q) := keep (by go_cell) hb3
  clear hb3 d2_p_0 d2_p_1
  go_wp2
  all_goals
    go_ret
    exact ⟨ret_bool (by first | rfl | (apply decide_eq_true; omega) | (simp; omega)), by (repeat' (first | (with_reducible exact Below.refl _ _) | (with_reducible assumption) | (with_reducible refine Below.alloc ?_ ?_ _) | (with_reducible refine Below.drew ?_) | (with_reducible refine below_dn ?_) | (with_reducible refine Below.setCell ?_ ?_ _) | (with_reducible exact Nat.le_refl _) | omega | (simp only [World.size_alloc, World.size_setCell, World.size_drew]; omega) | (simp; omega) | (simp; done)))⟩
set_option maxHeartbeats 2000000 in
theorem contains_go (base d p q s : Int) (a : Option Addr) (cap : Nat) (ps : List (Int × Int)) (a2 : Option Addr) (cap2 : Nat) (st : List Int) (a3 : Option Addr) (cap3 : Nat) (wd : List Int) (w : World) (hs : ∀ W, Sane W)
    (hp : PacesA w a ps) (hm : ps.length ≤ 9223372036854775807) (h2 : IntsA .u32 w a2 st) (hm2 : st.length ≤ 9223372036854775807) (h3 : IntsA .u16 w a3 wd) (hm3 : wd.length ≤ 9223372036854775807) (hh : honB ps d = true ∧ validB p q = true ∧ 0 ≤ d ∧ d ≤ 100000 ∧ p ≤ s ∧ s ≤ q ∧ st.length ≤ 100) (ne : showE base s ps = 0) :
    Calls Try.prog 7 #[.int .i64 base, .slice a ps.length cap, .int .i64 d, per p q, .int .i64 s, .slice a2 st.length cap2, .slice a3 wd.length cap3] w fun e w' => e = .returned (.bool true) ∧ Below w.heap.size w w' := by
  have HS := Lib.hid hs; clear hs
  have HP := Lib.hid hp; clear hp
  have H2 := Lib.hid h2; clear h2
  have H3 := Lib.hid h3; clear h3
  obtain ⟨g1, g2, g3, g4, g5, g6, g7⟩ := hh
  have E1 := Lib.hid g1; have E2 := Lib.hid g2
  have g2' : 0 ≤ p ∧ p ≤ q ∧ q ≤ 1099511627776 := by simpa [validB] using g2
  clear g1 g2
  have c1 := fun (W : World) (hb : Below w.heap.size w W) => show_fn base s a cap ps W (HP.out.mono hb) hm
  obtain ⟨N, hN⟩ : ∃ z, showN base s ps = z := ⟨_, rfl⟩
  obtain ⟨E, hE⟩ : ∃ z, showE base s ps = z := ⟨_, rfl⟩
  rw [hN, hE] at c1
  rw [hE] at ne
  subst ne
  obtain ⟨f1, f2, f3, f4, f5, f6⟩ := show_zero hE
  rw [hN] at f5
  rw [← f5] at f6
  have hT := showT_bd base s ps f1 f2 f3 f4 (near_all E1.out).2.1
  have ok : OkClk N p q d := by unfold OkClk; omega
  have c2 := fun W : World => new_yes N p q d W ok
  have inv : Inv base d s N p q s ps := ⟨f3, by omega, g5, g6, f5, ok⟩
  have c3 := fun (W : World) (hb : Below w.heap.size w W) => follow_any N p q d base s a cap ps a2 cap2 st a3 cap3 wd W (HP.out.mono hb) hm (H2.out.mono hb) g7 (H3.out.mono hb) hm3 f1 f2 f3 f4 E1.out g3 g4 s inv
  have C1 := Lib.hid c1; have C2 := Lib.hid c2; have C3 := Lib.hid c3
  clear c1 c2 c3 hN hE f5 hT ok inv
  go_enter Try.func7, Try.ntmps7
  go_wp2_with fail
  refine (honestref_any ps a cap d _ (HP.out.mono (by (repeat' (first | (with_reducible exact Below.refl _ _) | (with_reducible assumption) | (with_reducible refine Below.alloc ?_ ?_ _) | (with_reducible refine Below.drew ?_) | (with_reducible refine below_dn ?_) | (with_reducible refine Below.setCell ?_ ?_ _) | (with_reducible exact Nat.le_refl _) | omega | (simp only [World.size_alloc, World.size_setCell, World.size_drew]; omega) | (simp; omega) | (simp; done))))) hm).mono ?_
  rintro e w0 ⟨rfl, rfl⟩
  rw [E1.out]
  go_wp2_with fail
  refine (valid_ref _ _ _).mono ?_
  rintro e w1 ⟨rfl, hb1⟩
  rw [E2.out]
  have B1 : Below w.heap.size w w1 := bt (by (repeat' (first | (with_reducible exact Below.refl _ _) | (with_reducible assumption) | (with_reducible refine Below.alloc ?_ ?_ _) | (with_reducible refine Below.drew ?_) | (with_reducible refine below_dn ?_) | (with_reducible refine Below.setCell ?_ ?_ _) | (with_reducible exact Nat.le_refl _) | omega | (simp only [World.size_alloc, World.size_setCell, World.size_drew]; omega) | (simp; omega) | (simp; done)))) hb1
  have s1 : w.heap.size ≤ w1.heap.size := B1.size
  have z1_p : w.heap.size < w1.heap.size := by (have := hb1.size; (try simp at this); omega)
  have x1_p : w.heap.size ≤ w1.heap.size := Nat.le_of_lt z1_p
  have d1_p_0 : w1.cell? ⟨w.heap.size, 0, none⟩ = some (.int .i64 p) := keep (by go_cell) hb1
  have d1_p_1 : w1.cell? ⟨w.heap.size, 1, none⟩ = some (.int .i64 q) := keep (by go_cell) hb1
  clear hb1
  go_wp2_with fail
  refine (C1.out _ (by (repeat' (first | (with_reducible exact Below.refl _ _) | (with_reducible assumption) | (with_reducible refine Below.alloc ?_ ?_ _) | (with_reducible refine Below.drew ?_) | (with_reducible refine below_dn ?_) | (with_reducible refine Below.setCell ?_ ?_ _) | (with_reducible exact Nat.le_refl _) | omega | (simp only [World.size_alloc, World.size_setCell, World.size_drew]; omega) | (simp; omega) | (simp; done))))).mono ?_
  rintro e w2 ⟨rfl, hb2⟩
  have B2 : Below w.heap.size w w2 := bt (by (repeat' (first | (with_reducible exact Below.refl _ _) | (with_reducible assumption) | (with_reducible refine Below.alloc ?_ ?_ _) | (with_reducible refine Below.drew ?_) | (with_reducible refine below_dn ?_) | (with_reducible refine Below.setCell ?_ ?_ _) | (with_reducible exact Nat.le_refl _) | omega | (simp only [World.size_alloc, World.size_setCell, World.size_drew]; omega) | (simp; omega) | (simp; done)))) hb2
  have s2 : w.heap.size ≤ w2.heap.size := B2.size
  have z2_p : w.heap.size < w2.heap.size := by (have := hb2.size; (try simp at this); omega)
  have x2_p : w.heap.size ≤ w2.heap.size := Nat.le_of_lt z2_p
  have d2_p_0 : w2.cell? ⟨w.heap.size, 0, none⟩ = some (.int .i64 p) := keep (by go_cell) hb2
  have d2_p_1 : w2.cell? ⟨w.heap.size, 1, none⟩ = some (.int .i64 q) := keep (by go_cell) hb2
  clear hb2 d1_p_0 d1_p_1
  go_wp2_with fail
  refine (C2.out _).mono ?_
  rintro e w3 ⟨rfl, hb3⟩
  have B3 : Below w.heap.size w w3 := bt (by (repeat' (first | (with_reducible exact Below.refl _ _) | (with_reducible assumption) | (with_reducible refine Below.alloc ?_ ?_ _) | (with_reducible refine Below.drew ?_) | (with_reducible refine below_dn ?_) | (with_reducible refine Below.setCell ?_ ?_ _) | (with_reducible exact Nat.le_refl _) | omega | (simp only [World.size_alloc, World.size_setCell, World.size_drew]; omega) | (simp; omega) | (simp; done)))) hb3
  have s3 : w.heap.size ≤ w3.heap.size := B3.size
  have z3_p : w.heap.size < w3.heap.size := by (have := hb3.size; (try simp at this); omega)
  have x3_p : w.heap.size ≤ w3.heap.size := Nat.le_of_lt z3_p
  have d3_p_0 : w3.cell? ⟨w.heap.size, 0, none⟩ = some (.int .i64 p) := keep (by go_cell) hb3
  have d3_p_1 : w3.cell? ⟨w.heap.size, 1, none⟩ = some (.int .i64 q) := keep (by go_cell) hb3
  clear hb3 d2_p_0 d2_p_1
  go_wp2_with fail
  refine (HS.out _).mono ?_
  rintro e w4 ⟨rfl, hb4⟩
  have B4 : Below w.heap.size w w4 := bt (by (repeat' (first | (with_reducible exact Below.refl _ _) | (with_reducible assumption) | (with_reducible refine Below.alloc ?_ ?_ _) | (with_reducible refine Below.drew ?_) | (with_reducible refine below_dn ?_) | (with_reducible refine Below.setCell ?_ ?_ _) | (with_reducible exact Nat.le_refl _) | omega | (simp only [World.size_alloc, World.size_setCell, World.size_drew]; omega) | (simp; omega) | (simp; done)))) hb4
  have s4 : w.heap.size ≤ w4.heap.size := B4.size
  have z4_p : w.heap.size < w4.heap.size := by (have := hb4.size; (try simp at this); omega)
  have x4_p : w.heap.size ≤ w4.heap.size := Nat.le_of_lt z4_p
  have d4_p_0 : w4.cell? ⟨w.heap.size, 0, none⟩ = some (.int .i64 p) := keep (by go_cell) hb4
  have d4_p_1 : w4.cell? ⟨w.heap.size, 1, none⟩ = some (.int .i64 q) := keep (by go_cell) hb4
  have z4_c : w3.heap.size < w4.heap.size := by (have := hb4.size; (try simp at this); omega)
  have x4_c : w3.heap.size ≤ w4.heap.size := Nat.le_of_lt z4_c
  have d4_c_0 : w4.cell? ⟨w3.heap.size, 0, none⟩ = some (.int .i64 N) := keep (by go_cell) hb4
  have d4_c_1 : w4.cell? ⟨w3.heap.size, 1, none⟩ = some (.int .i64 p) := keep (by go_cell) hb4
  have d4_c_2 : w4.cell? ⟨w3.heap.size, 2, none⟩ = some (.int .i64 q) := keep (by go_cell) hb4
  have d4_c_3 : w4.cell? ⟨w3.heap.size, 3, none⟩ = some (.int .i64 d) := keep (by go_cell) hb4
  clear hb4 d3_p_0 d3_p_1
  go_wp2_with fail
  refine (C3.out _ (by (repeat' (first | (with_reducible exact Below.refl _ _) | (with_reducible assumption) | (with_reducible refine Below.alloc ?_ ?_ _) | (with_reducible refine Below.drew ?_) | (with_reducible refine below_dn ?_) | (with_reducible refine Below.setCell ?_ ?_ _) | (with_reducible exact Nat.le_refl _) | omega | (simp only [World.size_alloc, World.size_setCell, World.size_drew]; omega) | (simp; omega) | (simp; done))))).mono ?_
  rintro e w5 ⟨rfl, hb5⟩
  have B5 : Below w.heap.size w w5 := bt (by (repeat' (first | (with_reducible exact Below.refl _ _) | (with_reducible assumption) | (with_reducible refine Below.alloc ?_ ?_ _) | (with_reducible refine Below.drew ?_) | (with_reducible refine below_dn ?_) | (with_reducible refine Below.setCell ?_ ?_ _) | (with_reducible exact Nat.le_refl _) | omega | (simp only [World.size_alloc, World.size_setCell, World.size_drew]; omega) | (simp; omega) | (simp; done)))) hb5
  have s5 : w.heap.size ≤ w5.heap.size := B5.size
  have z5_p : w.heap.size < w5.heap.size := by (have := hb5.size; (try simp at this); omega)
  have x5_p : w.heap.size ≤ w5.heap.size := Nat.le_of_lt z5_p
  have d5_p_0 : w5.cell? ⟨w.heap.size, 0, none⟩ = some (.int .i64 p) := keep (by go_cell) hb5
  have d5_p_1 : w5.cell? ⟨w.heap.size, 1, none⟩ = some (.int .i64 q) := keep (by go_cell) hb5
  have z5_c : w3.heap.size < w5.heap.size := by (have := hb5.size; (try simp at this); omega)
  have x5_c : w3.heap.size ≤ w5.heap.size := Nat.le_of_lt z5_c
  have d5_c_0 : w5.cell? ⟨w3.heap.size, 0, none⟩ = some (.int .i64 N) := keep (by go_cell) hb5
  have d5_c_1 : w5.cell? ⟨w3.heap.size, 1, none⟩ = some (.int .i64 p) := keep (by go_cell) hb5
  have d5_c_2 : w5.cell? ⟨w3.heap.size, 2, none⟩ = some (.int .i64 q) := keep (by go_cell) hb5
  have d5_c_3 : w5.cell? ⟨w3.heap.size, 3, none⟩ = some (.int .i64 d) := keep (by go_cell) hb5
  clear hb5 d4_p_0 d4_p_1 d4_c_0 d4_c_1 d4_c_2 d4_c_3
  go_wp2
  all_goals
    go_ret
    exact ⟨ret_bool (by first | rfl | (apply decide_eq_true; omega) | (simp; omega)), by (repeat' (first | (with_reducible exact Below.refl _ _) | (with_reducible assumption) | (with_reducible refine Below.alloc ?_ ?_ _) | (with_reducible refine Below.drew ?_) | (with_reducible refine below_dn ?_) | (with_reducible refine Below.setCell ?_ ?_ _) | (with_reducible exact Nat.le_refl _) | omega | (simp only [World.size_alloc, World.size_setCell, World.size_drew]; omega) | (simp; omega) | (simp; done)))⟩
theorem containsTrueTime (base d p q s : Int) (a : Option Addr) (cap : Nat) (ps : List (Int × Int)) (a2 : Option Addr) (cap2 : Nat) (st : List Int) (a3 : Option Addr) (cap3 : Nat) (wd : List Int) (w : World) (hs : ∀ W, Sane W)
    (hp : PacesA w a ps) (hm : ps.length ≤ 9223372036854775807) (h2 : IntsA .u32 w a2 st) (hm2 : st.length ≤ 9223372036854775807) (h3 : IntsA .u16 w a3 wd) (hm3 : wd.length ≤ 9223372036854775807) :
    Calls Try.prog 7 #[.int .i64 base, .slice a ps.length cap, .int .i64 d, per p q, .int .i64 s, .slice a2 st.length cap2, .slice a3 wd.length cap3] w fun e w' => e = .returned (.bool true) ∧ Below w.heap.size w w' := by
  by_cases hh : honB ps d = true ∧ validB p q = true ∧ 0 ≤ d ∧ d ≤ 100000 ∧ p ≤ s ∧ s ≤ q ∧ st.length ≤ 100
  · by_cases ne : showE base s ps = 0
    · exact contains_go _ _ _ _ _ _ _ _ _ _ _ _ _ _ _ hs hp hm h2 hm2 h3 hm3 hh ne
    · exact contains_end _ _ _ _ _ _ _ _ _ _ _ _ _ _ _ hs hp hm h2 hm2 h3 hm3 hh ne
  · exact contains_out _ _ _ _ _ _ _ _ _ _ _ _ _ _ _ hs hp hm h2 hm2 h3 hm3 hh
end Go.Proofs.Ytnojnfmhinjcpaa
