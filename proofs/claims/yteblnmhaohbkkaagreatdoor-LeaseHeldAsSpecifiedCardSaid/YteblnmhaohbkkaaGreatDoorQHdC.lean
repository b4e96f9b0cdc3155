/- Contracts of the specification's clock. -/
import Derived.Test.YteblnmhaohbkkaaGreatDoorQLeC
namespace Go.Proofs.YteblnmhaohbkkaaGreatDoor
set_option linter.unusedVariables false
set_option linter.unusedSimpArgs false
namespace Le
open Go.RowKit Go.Sort

theorem below_dn {B n : Nat} {a w : World} (h : Below B a w) : Below B a (w.drewN n) := ⟨h.os, h.tape, h.output, h.size, h.block⟩
theorem ret_bool {a b : Bool} (h : a = b) : Ending.returned (.bool a) = .returned (.bool b) := by rw [h]
theorem before_ref (lo hi t : Int) (w : World) :
    Calls Tryz.prog 80 #[per lo hi, .int .i64 t] w fun e w' => e = .returned (.bool (decide (hi < t))) ∧ Below w.heap.size w w' := by
  go_enter Tryz.func80, Tryz.ntmps80
  go_wp2
  go_ret
  exact ⟨rfl, by (repeat' (first | (with_reducible exact Below.refl _ _) | (with_reducible assumption) | (with_reducible refine Below.alloc ?_ ?_ _) | (with_reducible refine Below.drew ?_) | (with_reducible refine below_dn ?_) | (with_reducible refine Below.setCell ?_ ?_ _) | (with_reducible exact Nat.le_refl _) | omega | (simp only [World.size_alloc, World.size_setCell, World.size_drew]; omega) | (simp; omega) | (simp; done)))⟩
theorem per_ext {a b c d : Int} (h1 : a = c) (h2 : b = d) : per a b = per c d := by rw [h1, h2]
def clipF (t : Int) : Int := max 0 (min t 1099511627776)
theorem clip_any (t : Int) (w : World) :
    Calls Tryz.prog 94 #[.int .i64 t] w fun e w' => e = .returned (.int .i64 (clipF t)) ∧ w = w' := by
  go_enter Tryz.func94, Tryz.ntmps94
  go_wp2
  all_goals
    go_ret
    exact ⟨ret_int (by unfold clipF; omega), rfl⟩
theorem clip_s (t : Int) (w : World) :
    Calls Tryz.prog 94 #[.int .i64 t] w fun e w' => e = .returned (.int .i64 (clipF t)) ∧ w' = w := (clip_any t w).mono fun _ _ h => ⟨h.1, h.2.symm⟩
theorem checkref_yes (l lo hi d : Int) (w : World) (h : 0 ≤ l ∧ l ≤ 2199023255552 ∧ 0 ≤ lo ∧ lo ≤ hi ∧ hi ≤ 1099511627776 ∧ 0 ≤ d ∧ d ≤ 100000) :
    Calls Tryz.prog 31 #[clk l lo hi d] w fun e w' => e = .returned (.int .i64 0) ∧ Below w.heap.size w w' := by
  obtain ⟨h1, h2, h3, h4, h5, h6, h7⟩ := h
  go_enter Tryz.func31, Tryz.ntmps31
  go_wp2
  go_ret
  exact ⟨rfl, by (repeat' (first | (with_reducible exact Below.refl _ _) | (with_reducible assumption) | (with_reducible refine Below.alloc ?_ ?_ _) | (with_reducible refine Below.drew ?_) | (with_reducible refine below_dn ?_) | (with_reducible refine Below.setCell ?_ ?_ _) | (with_reducible exact Nat.le_refl _) | omega | (simp only [World.size_alloc, World.size_setCell, World.size_drew]; omega) | (simp; omega) | (simp; done)))⟩
theorem checkref_no (l lo hi d : Int) (w : World) (h : chkB l lo hi d = false) :
    Calls Tryz.prog 31 #[clk l lo hi d] w fun e w' => e = .returned (.int .i64 1) ∧ Below w.heap.size w w' := by
  have H := Lib.hid h; clear h
  go_enter Tryz.func31, Tryz.ntmps31
  go_wp2
  all_goals
    go_ret
    first
    | exact ⟨rfl, by (repeat' (first | (with_reducible exact Below.refl _ _) | (with_reducible assumption) | (with_reducible refine Below.alloc ?_ ?_ _) | (with_reducible refine Below.drew ?_) | (with_reducible refine below_dn ?_) | (with_reducible refine Below.setCell ?_ ?_ _) | (with_reducible exact Nat.le_refl _) | omega | (simp only [World.size_alloc, World.size_setCell, World.size_drew]; omega) | (simp; omega) | (simp; done)))⟩
    | (exfalso; have h := H.out; simp only [chkB, decide_eq_false_iff_not] at h; omega)
abbrev rdd (lo hi e : Int) : Value := .agg #[.int .i64 lo, .int .i64 hi, .int .i64 e]
theorem ret_rdd {a b c d e : Int} (h1 : a = c) (h2 : b = d) : Ending.returned (rdd a b e) = .returned (rdd c d e) := by rw [h1, h2]
set_option maxRecDepth 100000 in
theorem readref_time (l lo hi d x : Int) (w : World) (h1 : 0 ≤ l) (h2 : l ≤ 2199023255552) (hx : 0 ≤ x) (hx2 : x ≤ 2199023255552) (hn : x < l) :
    Calls Tryz.prog 79 #[clk l lo hi d, .int .i64 x] w fun e w' => e = .returned (rdd 0 0 9) ∧ Below w.heap.size w w' := by
  go_enter Tryz.func79, Tryz.ntmps79
  go_wp2
  refine bodyPost_ret (by simp [results, Tryz.results79, go_sem]; try rfl) rfl ?_
  exact ⟨rfl, by (repeat' (first | (with_reducible exact Below.refl _ _) | (with_reducible assumption) | (with_reducible refine Below.alloc ?_ ?_ _) | (with_reducible refine Below.drew ?_) | (with_reducible refine below_dn ?_) | (with_reducible refine Below.setCell ?_ ?_ _) | (with_reducible exact Nat.le_refl _) | omega | (simp only [World.size_alloc, World.size_setCell, World.size_drew]; omega) | (simp; omega) | (simp; done)))⟩
set_option maxRecDepth 100000 in
theorem readref_arg (l lo hi d x : Int) (w : World) (hx : x < 0 ∨ 2199023255552 < x) :
    Calls Tryz.prog 79 #[clk l lo hi d, .int .i64 x] w fun e w' => e = .returned (rdd 0 0 1) ∧ Below w.heap.size w w' := by
  rcases hx with hx | hx
  all_goals
    go_enter Tryz.func79, Tryz.ntmps79
    go_wp2
    refine bodyPost_ret (by simp [results, Tryz.results79, go_sem]; try rfl) rfl ?_
    exact ⟨rfl, by (repeat' (first | (with_reducible exact Below.refl _ _) | (with_reducible assumption) | (with_reducible refine Below.alloc ?_ ?_ _) | (with_reducible refine Below.drew ?_) | (with_reducible refine below_dn ?_) | (with_reducible refine Below.setCell ?_ ?_ _) | (with_reducible exact Nat.le_refl _) | omega | (simp only [World.size_alloc, World.size_setCell, World.size_drew]; omega) | (simp; omega) | (simp; done)))⟩
set_option maxRecDepth 100000 in
theorem readref_zero (l lo hi d : Int) (w : World) (h1 : 0 ≤ l) (h2 : l ≤ 2199023255552) (h3 : 0 ≤ lo) (h4 : lo ≤ hi) (h5 : hi ≤ 1099511627776) (h6 : 0 ≤ d) (h7 : d ≤ 100000) :
    Calls Tryz.prog 79 #[clk l lo hi d, .int .i64 l] w fun e w' => e = .returned (rdd lo (min 1099511627776 (hi + 1000000 / (1000000 - d))) 0) ∧ Below w.heap.size w w' := by
  obtain ⟨g1, g2, -, -⟩ := quo_bd (x := 1000000) (f := 1000000 - d) (by omega) (by omega)
  go_enter Tryz.func79, Tryz.ntmps79
  go_wp2
  refine wp_region_still_tail 14 (by kernel_rfl) (by kernel_rfl) ?_
  simp only [List.take_succ_cons, List.take_zero, List.drop_succ_cons, List.drop_zero]
  show wpStill _ _ (World.drew _) _ _ _
  repeat still_step
  still_call (clip_s _ _)
  repeat still_step
  still_call (clip_s _ _)
  repeat still_step
  refine wpStill_nil ?_
  show wpList _ _ _ _ _ (World.drew _)
  go_wp2
  refine bodyPost_ret (by simp [results, Tryz.results79, go_sem]; try rfl) rfl ?_
  exact ⟨ret_rdd (by unfold clipF; omega) (by unfold clipF; omega), by (repeat' (first | (with_reducible exact Below.refl _ _) | (with_reducible assumption) | (with_reducible refine Below.alloc ?_ ?_ _) | (with_reducible refine Below.drew ?_) | (with_reducible refine below_dn ?_) | (with_reducible refine Below.setCell ?_ ?_ _) | (with_reducible exact Nat.le_refl _) | omega | (simp only [World.size_alloc, World.size_setCell, World.size_drew]; omega) | (simp; omega) | (simp; done)))⟩
set_option maxRecDepth 100000 in
theorem readref_pos (l lo hi d x : Int) (w : World) (h1 : 0 ≤ l) (h2 : l ≤ 2199023255552) (h3 : 0 ≤ lo) (h4 : lo ≤ hi) (h5 : hi ≤ 1099511627776) (h6 : 0 ≤ d) (h7 : d ≤ 100000) (hx : x ≤ 2199023255552) (hn : l < x) :
    Calls Tryz.prog 79 #[clk l lo hi d, .int .i64 x] w fun e w' => e = .returned (rdd (min 1099511627776 (lo + ((x - l - 1) * 1000000 + (1000000 + d) - 1) / (1000000 + d))) (min 1099511627776 (hi + (x - l + 1) * 1000000 / (1000000 - d))) 0) ∧ Below w.heap.size w w' := by
  obtain ⟨g1, g2, -, -⟩ := quo_bd (x := (x - l + 1) * 1000000) (f := 1000000 - d) (by omega) (by omega)
  obtain ⟨k1, k2, k3, k4⟩ := quo_bd (x := (x - l - 1) * 1000000) (f := 1000000 + d) (by omega) (by omega)
  obtain ⟨u1, u2, -, -⟩ := quo_bd (x := (x - l - 1) * 1000000 + (1000000 + d) - 1) (f := 1000000 + d) (by omega) (by omega)
  by_cases hc : (x - l - 1) * 1000000 / (1000000 + d) * (1000000 + d) < (x - l - 1) * 1000000
  · have hup := ceil_up (by omega) hc
    have Hup := Lib.hid hup; clear hup
    go_enter Tryz.func79, Tryz.ntmps79
    go_wp2
    refine wp_region_still_tail 14 (by kernel_rfl) (by kernel_rfl) ?_
    simp only [List.take_succ_cons, List.take_zero, List.drop_succ_cons, List.drop_zero]
    show wpStill _ _ (World.drew _) _ _ _
    repeat still_step
    still_call (clip_s _ _)
    repeat still_step
    still_call (clip_s _ _)
    repeat still_step
    refine wpStill_nil ?_
    show wpList _ _ _ _ _ (World.drew _)
    go_wp2
    refine bodyPost_ret (by simp [results, Tryz.results79, go_sem]; try rfl) rfl ?_
    exact ⟨ret_rdd (by have := Hup.out; unfold clipF; omega) (by unfold clipF; omega), by (repeat' (first | (with_reducible exact Below.refl _ _) | (with_reducible assumption) | (with_reducible refine Below.alloc ?_ ?_ _) | (with_reducible refine Below.drew ?_) | (with_reducible refine below_dn ?_) | (with_reducible refine Below.setCell ?_ ?_ _) | (with_reducible exact Nat.le_refl _) | omega | (simp only [World.size_alloc, World.size_setCell, World.size_drew]; omega) | (simp; omega) | (simp; done)))⟩
  · have hup := ceil_same (by omega) hc
    have Hup := Lib.hid hup; clear hup
    go_enter Tryz.func79, Tryz.ntmps79
    go_wp2
    refine wp_region_still_tail 14 (by kernel_rfl) (by kernel_rfl) ?_
    simp only [List.take_succ_cons, List.take_zero, List.drop_succ_cons, List.drop_zero]
    show wpStill _ _ (World.drew _) _ _ _
    repeat still_step
    still_call (clip_s _ _)
    repeat still_step
    still_call (clip_s _ _)
    repeat still_step
    refine wpStill_nil ?_
    show wpList _ _ _ _ _ (World.drew _)
    go_wp2
    refine bodyPost_ret (by simp [results, Tryz.results79, go_sem]; try rfl) rfl ?_
    exact ⟨ret_rdd (by have := Hup.out; unfold clipF; omega) (by unfold clipF; omega), by (repeat' (first | (with_reducible exact Below.refl _ _) | (with_reducible assumption) | (with_reducible refine Below.alloc ?_ ?_ _) | (with_reducible refine Below.drew ?_) | (with_reducible refine below_dn ?_) | (with_reducible refine Below.setCell ?_ ?_ _) | (with_reducible exact Nat.le_refl _) | omega | (simp only [World.size_alloc, World.size_setCell, World.size_drew]; omega) | (simp; omega) | (simp; done)))⟩
set_option maxRecDepth 100000 in
theorem readref_ok (l lo hi d x : Int) (w : World) (h1 : 0 ≤ l) (h2 : l ≤ 2199023255552) (h3 : 0 ≤ lo) (h4 : lo ≤ hi) (h5 : hi ≤ 1099511627776) (h6 : 0 ≤ d) (h7 : d ≤ 100000) (hx : x ≤ 2199023255552) (hn : l ≤ x) :
    Calls Tryz.prog 79 #[clk l lo hi d, .int .i64 x] w fun e w' => e = .returned (rdd (rdLo lo d (x - l)) (rdHi hi d (x - l)) 0) ∧ Below w.heap.size w w' := by
  by_cases c : l = x
  · subst c
    have := readref_zero l lo hi d w h1 h2 h3 h4 h5 h6 h7
    have e1 : rdLo lo d (l - l) = lo := by unfold rdLo least; rw [if_neg (by omega)]; omega
    have e2 : rdHi hi d (l - l) = min 1099511627776 (hi + 1000000 / (1000000 - d)) := by unfold rdHi; rw [Int.sub_self]; rfl
    rw [e1, e2]; exact this
  · have := readref_pos l lo hi d x w h1 h2 h3 h4 h5 h6 h7 hx (by omega)
    have e1 : rdLo lo d (x - l) = min 1099511627776 (lo + ((x - l - 1) * 1000000 + (1000000 + d) - 1) / (1000000 + d)) := by unfold rdLo least; rw [if_pos (by omega)]
    rw [e1]; exact this
theorem early_any (l lo hi d t x : Int) (w : World) (h : OkClk l lo hi d) (hx : l ≤ x) (hx2 : x ≤ 2199023255552) :
    Calls Tryz.prog 68 #[clk l lo hi d, .int .i64 x, .int .i64 t] w fun e w' => e = .returned (.bool (decide (rdHi hi d (x - l) < t))) ∧ Below w.heap.size w w' := by
  have H := Lib.hid h
  obtain ⟨h1, h2, h3, h4, h5, h6, h7⟩ := h
  go_enter Tryz.func68, Tryz.ntmps68
  go_wp2_with fail
  refine (readref_ok l lo hi d x _ h1 h2 h3 h4 h5 h6 h7 hx2 hx).mono ?_
  rintro e w1 ⟨rfl, hb⟩
  obtain ⟨hc, hf⟩ := bcell hb
  go_wp2_with fail
  refine (before_ref _ _ _ _).mono ?_
  rintro e w2 ⟨rfl, hb2⟩
  go_wp2
  go_ret
  exact ⟨rfl, bt (bt (bt (by (repeat' (first | (with_reducible exact Below.refl _ _) | (with_reducible assumption) | (with_reducible refine Below.alloc ?_ ?_ _) | (with_reducible refine Below.drew ?_) | (with_reducible refine below_dn ?_) | (with_reducible refine Below.setCell ?_ ?_ _) | (with_reducible exact Nat.le_refl _) | omega | (simp only [World.size_alloc, World.size_setCell, World.size_drew]; omega) | (simp; omega) | (simp; done)))) hb) (by (repeat' (first | (with_reducible exact Below.refl _ _) | (with_reducible assumption) | (with_reducible refine Below.alloc ?_ ?_ _) | (with_reducible refine Below.drew ?_) | (with_reducible refine below_dn ?_) | (with_reducible refine Below.setCell ?_ ?_ _) | (with_reducible exact Nat.le_refl _) | omega | (simp only [World.size_alloc, World.size_setCell, World.size_drew]; omega) | (simp; omega) | (simp; done))))) hb2⟩
set_option maxHeartbeats 400000 in
theorem untilref_any (l lo hi d t : Int) (w : World) (h : OkClk l lo hi d) :
    Calls Tryz.prog 53 #[clk l lo hi d, .int .i64 t] w fun e w' => (∃ u : Int, e = .returned (.int .i64 u) ∧ UntilIs l hi d t u) ∧ Below w.heap.size w w' := by
  have H := Lib.hid h
  obtain ⟨h1, h2, h3, h4, h5, h6, h7⟩ := h
  go_enter Tryz.func53, Tryz.ntmps53
  go_wp2
  go_loopw [5, 6] (fun i j wr => ∃ x y : Int, i = .int .i64 x ∧ j = .int .i64 y ∧ l - 1 ≤ x ∧ x < y ∧ y ≤ 2199023255553 ∧ Below (w.heap.size + 1) (w.alloc (Obj.cells #[Value.int IntKind.i64 l, Value.int IntKind.i64 lo, Value.int IntKind.i64 hi, Value.int IntKind.i64 d] 32)) wr ∧ Hid (l ≤ x → rdHi hi d (x - l) < t) ∧ Hid (y < 2199023255553 → t ≤ rdHi hi d (y - l))) (fun i j _ => (intOf j - intOf i).toNat)
  case atStart => exact ⟨l - 1, 2199023255553, rfl, rfl, by omega, by omega, by omega, Below.refl _ _, fun h => absurd h (by omega), fun h => absurd h (by omega)⟩
  case round =>
    obtain ⟨x, y, rfl, rfl, hx, hxy, hy, hB, g1, g2⟩ := hrel
    have hc0 : ∀ o, wr.cell? ⟨w.heap.size, o, none⟩ = (w.alloc (Obj.cells #[Value.int IntKind.i64 l, Value.int IntKind.i64 lo, Value.int IntKind.i64 hi, Value.int IntKind.i64 d] 32)).cell? ⟨w.heap.size, o, none⟩ := fun o => hB.cell (p := ⟨w.heap.size, o, none⟩) (by simp)
    by_cases hlt : 1 < y - x
    · have hm1 : l ≤ (x + y) / 2 := by omega
      have hm2 : (x + y) / 2 < y := by omega
      have hm3 : x < (x + y) / 2 := by omega
      have hm4 : (x + y) / 2 ≤ 2199023255552 := by omega
      have hs : w.heap.size + 1 ≤ wr.heap.size := by have := hB.size; simpa using this
      by_cases hp : rdHi hi d ((x + y) / 2 - l) < t
      all_goals
        go_wp2_with fail
        refine (early_any l lo hi d t _ _ H.out hm1 hm4).mono ?_
        rintro e w1 ⟨rfl, hb⟩
        have hB1 := hB.trans (hb.mono hs)
        go_wp2
        go_roundw
        case rel =>
          first
          | exact ⟨(x + y) / 2, y, rfl, rfl, by omega, by omega, by omega, hB1, fun _ => hp, g2⟩
          | exact ⟨x, (x + y) / 2, rfl, rfl, by omega, by omega, by omega, hB1, g1, fun _ => by omega⟩
        case measure => simp [intOf]; omega
    · obtain rfl : y = x + 1 := by omega
      have hs : w.heap.size + 1 ≤ wr.heap.size := by have := hB.size; simpa using this
      have hF : Below w.heap.size w wr := Below.trans (b := w.alloc (Obj.cells #[Value.int IntKind.i64 l, Value.int IntKind.i64 lo, Value.int IntKind.i64 hi, Value.int IntKind.i64 d] 32)) (by (repeat' (first | (with_reducible exact Below.refl _ _) | (with_reducible assumption) | (with_reducible refine Below.alloc ?_ ?_ _) | (with_reducible refine Below.drew ?_) | (with_reducible refine below_dn ?_) | (with_reducible refine Below.setCell ?_ ?_ _) | (with_reducible exact Nat.le_refl _) | omega | (simp only [World.size_alloc, World.size_setCell, World.size_drew]; omega) | (simp; omega) | (simp; done)))) (hB.mono (by omega))
      by_cases hs1 : l ≤ x
      · go_wp2
        go_ret
        exact ⟨⟨x, rfl, Or.inr ⟨hs1, by omega, g1.out hs1, fun hx => g2.out (by omega)⟩⟩, hF⟩
      · go_wp2
        go_ret
        exact ⟨⟨-1, rfl, Or.inl ⟨rfl, fun z hz1 hz2 => by
          have h0 := g2.out (by omega)
          have := rdHi_mono hi d (x + 1 - l) (z - l) h7 (by omega)
          omega⟩⟩, hF⟩
theorem untilref_fn (l lo hi d t : Int) (w : World) (h : OkClk l lo hi d) :
    Calls Tryz.prog 53 #[clk l lo hi d, .int .i64 t] w fun e w' => (e = .returned (.int .i64 (untilF l hi d t)) ∧ UntilIs l hi d t (untilF l hi d t)) ∧ Below w.heap.size w w' :=
  (untilref_any l lo hi d t w h).mono fun e w' ⟨⟨u, he, hu⟩, hb⟩ => ⟨⟨by rw [untilF_eq h hu]; exact he, untilF_is hu⟩, hb⟩
theorem worthref_out (l lo hi d x t : Int) (w : World) (h : x < l ∨ 2199023255552 < x) :
    Calls Tryz.prog 32 #[clk l lo hi d, .int .i64 x, .int .i64 t] w fun e w' => e = .returned (.int .i64 0) ∧ Below w.heap.size w w' := by
  rcases h with h | h
  all_goals
    go_enter Tryz.func32, Tryz.ntmps32
    go_wp2
    all_goals
      go_ret
      exact ⟨rfl, by (repeat' (first | (with_reducible exact Below.refl _ _) | (with_reducible assumption) | (with_reducible refine Below.alloc ?_ ?_ _) | (with_reducible refine Below.drew ?_) | (with_reducible refine below_dn ?_) | (with_reducible refine Below.setCell ?_ ?_ _) | (with_reducible exact Nat.le_refl _) | omega | (simp only [World.size_alloc, World.size_setCell, World.size_drew]; omega) | (simp; omega) | (simp; done)))⟩
theorem worthref_in (l lo hi d x t : Int) (w : World) (h : OkClk l lo hi d) (k1 : l ≤ x) (k2 : x ≤ 2199023255552) :
    Calls Tryz.prog 32 #[clk l lo hi d, .int .i64 x, .int .i64 t] w fun e w' => e = .returned (.int .i64 (max 0 (untilF l hi d t + 1 - x))) ∧ Below w.heap.size w w' := by
  have H := Lib.hid h
  obtain ⟨h1, h2, h3, h4, h5, h6, h7⟩ := h
  go_enter Tryz.func32, Tryz.ntmps32
  go_wp2_with fail
  refine (untilref_fn l lo hi d t _ H.out).mono ?_
  rintro e w1 ⟨⟨rfl, hu⟩, hb⟩
  obtain ⟨b1, b2⟩ := hu.bd h1
  have HU := Lib.hid hu; clear hu
  go_wp2
  all_goals
    go_ret
    exact ⟨ret_int (by omega), bt (by (repeat' (first | (with_reducible exact Below.refl _ _) | (with_reducible assumption) | (with_reducible refine Below.alloc ?_ ?_ _) | (with_reducible refine Below.drew ?_) | (with_reducible refine below_dn ?_) | (with_reducible refine Below.setCell ?_ ?_ _) | (with_reducible exact Nat.le_refl _) | omega | (simp only [World.size_alloc, World.size_setCell, World.size_drew]; omega) | (simp; omega) | (simp; done)))) hb⟩
end Le
end Go.Proofs.YteblnmhaohbkkaaGreatDoor
