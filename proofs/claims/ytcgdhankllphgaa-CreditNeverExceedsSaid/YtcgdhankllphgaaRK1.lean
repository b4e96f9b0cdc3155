import Derived.Test.YtcgdhankllphgaaRM
import Derived.Deep.RegionHeld3
namespace Go.Proofs.Ytcgdhankllphgaa
set_option linter.unusedVariables false
set_option linter.unusedSimpArgs false
set_option linter.unusedSectionVars false
open Go.RowKit
theorem isNaN_any (n : Int) (w : World) : Calls Try.prog 83 #[.int .i64 n] w fun e w' => e = .returned (.bool false) ∧ w = w' := by
  have h : (n != n) = false := by simp
  go_enter Try.func83, Try.ntmps83
  go_wp2
  go_ret
  exact ⟨rfl, rfl⟩
set_option maxHeartbeats 400000 in
theorem compare_any (a b : Int) (w : World) : Calls Try.prog 75 #[.int .i64 a, .int .i64 b] w fun e w' => e = .returned (.int .i64 (cmpI a b)) ∧ w = w' := by
  have C1 := Lib.hid (fun W => isNaN_any a W)
  have C2 := Lib.hid (fun W => isNaN_any b W)
  have hc : cmpI a b = if a < b then -1 else if b < a then 1 else 0 := rfl
  obtain ⟨r, hr⟩ : ∃ r, cmpI a b = r := ⟨_, rfl⟩
  rw [hr] at hc ⊢
  have HC := Lib.hid hc
  clear hr hc
  go_enter Try.func75, Try.ntmps75
  go_wp2_with fail
  refine (C1.out _).mono ?_
  rintro e w1 ⟨rfl, rfl⟩
  go_wp2_with fail
  refine (C2.out _).mono ?_
  rintro e w1 ⟨rfl, rfl⟩
  go_wp2
  all_goals
    go_ret
    exact ⟨ret_int (by rw [HC.out]; (repeat' split) <;> omega), rfl⟩
def SameW (w wr : World) : Prop := wr = w
def orI (x y : Int) : Int := if x = 0 then y else x
set_option maxRecDepth 100000 in
set_option maxHeartbeats 400000 in
theorem or_any (x y : Int) (g cap : Nat) (w : World) (hg : w.cell? ⟨g, 0, none⟩ = some (.int .i64 x)) (hg1 : w.cell? ⟨g, 1, none⟩ = some (.int .i64 y)) :
    Calls Try.prog 74 #[.slice (some ⟨g, 0, none⟩) 2 cap] w fun e w' => e = .returned (.int .i64 (orI x y)) ∧ w = w' := by
  have HX := Lib.hid hg; have HY := Lib.hid hg1
  clear hg hg1
  go_enter Try.func74, Try.ntmps74
  go_wp2
  go_loopw [8, 5] (fun u8 _ wr => ∃ k : Nat, k ≤ 2 ∧ u8 = .int .i64 k ∧ Hid ((0 < k → x = 0) ∧ (1 < k → y = 0)) ∧ SameW w wr) (fun u8 _ _ => 2 - (intOf u8).toNat)
  case atStart => exact ⟨0, by omega, rfl, Lib.hid ⟨fun h => absurd h (by omega), fun h => absurd h (by omega)⟩, (rfl : w = w)⟩
  case round =>
    obtain ⟨k, hk, rfl, HZ, HW⟩ := hrel
    have e : wr = w := HW
    have qx := HX.out
    have qy := HY.out
    rw [← e] at qx qy
    have HW2 := Lib.hid HW
    clear e
    rcases (by omega : k = 0 ∨ k = 1 ∨ k = 2) with rfl | rfl | rfl
    · by_cases h : x = 0
      · have t1 : (x != 0) = false := by simp [h]
        have H := Lib.hid h
        clear h
        go_wp2
        go_roundw
        case rel => exact ⟨1, by omega, by go_num, Lib.hid ⟨fun _ => H.out, fun h => absurd h (by omega)⟩, HW2.out⟩
        case measure => simp [intOf]
      · have t1 : (x != 0) = true := by simp [h]
        have H := Lib.hid h
        clear h
        go_wp2
        go_ret
        exact ⟨ret_int (by unfold orI; rw [if_neg H.out]), HW2.out.symm⟩
    · have hx0 := Lib.hid (HZ.out.1 (by omega))
      by_cases h : y = 0
      · have t1 : (y != 0) = false := by simp [h]
        have H := Lib.hid h
        clear h
        go_wp2
        go_roundw
        case rel => exact ⟨2, by omega, by go_num, Lib.hid ⟨fun _ => hx0.out, fun _ => H.out⟩, HW2.out⟩
        case measure => simp [intOf]
      · have t1 : (y != 0) = true := by simp [h]
        have H := Lib.hid h
        clear h
        go_wp2
        go_ret
        exact ⟨ret_int (by unfold orI; rw [if_pos hx0.out]), HW2.out.symm⟩
    · have hx0 := Lib.hid (HZ.out.1 (by omega))
      have hy0 := Lib.hid (HZ.out.2 (by omega))
      go_wp2
      go_ret
      exact ⟨ret_int (by unfold orI; rw [if_pos hx0.out]; exact hy0.out.symm), HW2.out.symm⟩
theorem two {X : World} {g : Nat} {t : TypeId} {v0 v1 : Value} (h : Blk X g t #[v0, v1]) : X.cell? ⟨g, 0, none⟩ = some v0 ∧ X.cell? ⟨g, 1, none⟩ = some v1 := ⟨h.cell 0, h.cell 1⟩
theorem four {X : World} {g : Nat} {t : TypeId} {v0 v1 v2 v3 : Value} (h : Blk X g t #[v0, v1, v2, v3]) : X.cell? ⟨g, 0, none⟩ = some v0 ∧ X.cell? ⟨g, 1, none⟩ = some v1 ∧ X.cell? ⟨g, 2, none⟩ = some v2 ∧ X.cell? ⟨g, 3, none⟩ = some v3 := ⟨h.cell 0, h.cell 1, h.cell 2, h.cell 3⟩
theorem orI_cR (w g : Int) (x : Rw) : orI (cmpI x.1 w) (cmpI x.2.1 g) = cR w g x := rfl
set_option maxRecDepth 100000 in
set_option maxHeartbeats 400000 in
theorem cmpW_any (x y : Rw) (w : World) : Calls Try.prog 85 #[.agg (encR x).toArray, .agg (encR y).toArray] w fun e w' => e = .returned (.int .i64 (cW y.1 x)) ∧ Below w.heap.size w w' := by
  have C := Lib.hid (fun W => compare_any x.1 y.1 W)
  have HC := Lib.hid (show cmpI x.1 y.1 = cW y.1 x from rfl)
  obtain ⟨x1, x2, x3, x4⟩ := x
  obtain ⟨y1, y2, y3, y4⟩ := y
  simp only [encR] at C HC ⊢
  rw [← HC.out]
  clear HC
  obtain ⟨r, hr⟩ : ∃ r, cmpI x1 y1 = r := ⟨_, rfl⟩
  rw [hr] at C ⊢
  clear hr
  go_enter Try.func85, Try.ntmps85
  go_wp2_with fail
  refine (C.out _).mono ?_
  rintro e w1 ⟨rfl, rfl⟩
  go_wp2
  go_ret
  exact ⟨rfl, by (repeat' (first | (with_reducible exact Below.refl _ _) | (with_reducible assumption) | (with_reducible refine Below.alloc ?_ ?_ _) | (with_reducible refine Below.drew ?_) | (with_reducible refine below_dn ?_) | (with_reducible refine Below.setCell ?_ ?_ _) | (with_reducible exact Nat.le_refl _) | omega | (simp only [World.size_alloc, World.size_setCell, World.size_drew]; omega) | (simp; omega) | (simp; done)))⟩
set_option maxRecDepth 100000 in
set_option maxHeartbeats 1000000 in
theorem cmpR_any (x y : Rw) (w : World) : Calls Try.prog 60 #[.agg (encR x).toArray, .agg (encR y).toArray] w fun e w' => e = .returned (.int .i64 (cR y.1 y.2.1 x)) ∧ Below w.heap.size w w' := by
  have C := Lib.hid (fun W => compare_any x.1 y.1 W)
  have D := Lib.hid (fun W => compare_any x.2.1 y.2.1 W)
  have HC := Lib.hid (orI_cR y.1 y.2.1 x)
  obtain ⟨x1, x2, x3, x4⟩ := x
  obtain ⟨y1, y2, y3, y4⟩ := y
  simp only [encR] at C D HC ⊢
  rw [← HC.out]
  clear HC
  obtain ⟨r, hr⟩ : ∃ r, cmpI x1 y1 = r := ⟨_, rfl⟩
  obtain ⟨s, hs⟩ : ∃ r, cmpI x2 y2 = r := ⟨_, rfl⟩
  rw [hr] at C ⊢
  rw [hs] at D ⊢
  have O := Lib.hid (fun (g : Nat) (W : World) (h : W.cell? ⟨g, 0, none⟩ = some (.int .i64 r)) (h2 : W.cell? ⟨g, 1, none⟩ = some (.int .i64 s)) => or_any r s g 2 W h h2)
  clear hr hs
  go_enter Try.func60, Try.ntmps60
  go_upto_region 1 with (fail)
  obtain ⟨g1, hg1⟩ : ∃ g, w.heap.size = g := ⟨_, rfl⟩
  have K1 := Lib.hid (show Blk ((w.alloc (.cells #[.int .i64 x1, .int .i64 x2, .int .i64 x3, .int .i64 x4] 72)).alloc (.cells #[.int .i64 y1, .int .i64 y2, .int .i64 y3, .int .i64 y4] 72)) g1 72 #[.int .i64 x1, .int .i64 x2, .int .i64 x3, .int .i64 x4] from (Blk.new' w _ _ _ hg1 rfl).alloc _)
  have K2 := Lib.hid (show Blk ((w.alloc (.cells #[.int .i64 x1, .int .i64 x2, .int .i64 x3, .int .i64 x4] 72)).alloc (.cells #[.int .i64 y1, .int .i64 y2, .int .i64 y3, .int .i64 y4] 72)) (g1 + 1) 72 #[.int .i64 y1, .int .i64 y2, .int .i64 y3, .int .i64 y4] from Blk.new' _ _ _ _ (by rw [World.size_alloc, hg1]) rfl)
  have BB := Lib.hid (show Below g1 w ((w.alloc (.cells #[.int .i64 x1, .int .i64 x2, .int .i64 x3, .int .i64 x4] 72)).alloc (.cells #[.int .i64 y1, .int .i64 y2, .int .i64 y3, .int .i64 y4] 72)) by rw [← hg1]; (repeat' (first | (with_reducible exact Below.refl _ _) | (with_reducible assumption) | (with_reducible refine Below.alloc ?_ ?_ _) | (with_reducible refine Below.drew ?_) | (with_reducible refine below_dn ?_) | (with_reducible refine Below.setCell ?_ ?_ _) | (with_reducible exact Nat.le_refl _) | omega | (simp only [World.size_alloc, World.size_setCell, World.size_drew]; omega) | (simp; omega) | (simp; done))))
  generalize hw1 : World.alloc (World.alloc w _) _ = w1 at K1 K2 BB ⊢
  have HG := Lib.hid hg1
  rw [hg1]
  clear hw1 hg1
  go_region_held3 (fun X => X.cell? ⟨g1, 0, none⟩ = some (.int .i64 x1) ∧ X.cell? ⟨g1 + 1, 0, none⟩ = some (.int .i64 y1) ∧ X.cell? ⟨g1, 1, none⟩ = some (.int .i64 x2) ∧ X.cell? ⟨g1 + 1, 1, none⟩ = some (.int .i64 y2)) (first | exact ⟨K1.out.cell 0, K2.out.cell 0, K1.out.cell 1, K2.out.cell 1⟩ | exact ⟨(K1.out.alloc _).cell 0, (K2.out.alloc _).cell 0, (K1.out.alloc _).cell 1, (K2.out.alloc _).cell 1⟩) (first | (go_at_call 75; with_reducible refine (C.out _).mono ?_; rintro e wx ⟨rfl, rfl⟩) | (go_at_call 75; with_reducible refine (D.out _).mono ?_; rintro e wx ⟨rfl, rfl⟩) | (go_at_call 74; with_reducible refine (O.out _ _ ?_ ?_).mono ?_; (case _ => first | exact (two (Blk.new _ _ _).drew).1 | exact (two (Blk.new _ _ _)).1); (case _ => first | exact (two (Blk.new _ _ _).drew).2 | exact (two (Blk.new _ _ _)).2); rintro e wx ⟨rfl, rfl⟩))
  go_wp2_with fail
  go_ret
  exact ⟨rfl, by rw [HG.out]; exact Below.drew (BB.out.alloc (by have := BB.out.size; have := HG.out; omega) _)⟩
end Go.Proofs.Ytcgdhankllphgaa
