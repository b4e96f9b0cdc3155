import Derived.Test.YtnojnfmhinjcpaaT
namespace Go.Proofs.Ytnojnfmhinjcpaa
set_option linter.unusedVariables false
set_option linter.unusedSimpArgs false
open Go.RowKit Go.Sort
theorem early_any (l lo hi d t x : Int) (w : World) (h : OkClk l lo hi d) (hx : l ≤ x) (hx2 : x ≤ 2199023255552) :
    Calls Try.prog 44 #[clk l lo hi d, .int .i64 x, .int .i64 t] w fun e w' => e = .returned (.bool (decide (rdHi hi d (x - l) < t))) ∧ Below w.heap.size w w' := by
  have H := Lib.hid h
  obtain ⟨h1, h2, h3, h4, h5, h6, h7⟩ := h
  go_enter Try.func44, Try.ntmps44
  go_wp2_with fail
  refine (readref_ok l lo hi d x _ h1 h2 h3 h4 h5 h6 h7 hx2 hx).mono ?_
  rintro e w1 ⟨rfl, hb⟩
  obtain ⟨hc, hf⟩ := bcell hb
  go_wp2_with fail
  refine (before_ref _ _ _ _).mono ?_
  rintro e w2 ⟨rfl, hb2⟩
  go_wp2
  go_ret
  exact ⟨rfl, bt (bt (bt (by (repeat' (first | (with_reducible exact Below.refl _ _) | (with_reducible assumption) | (with_reducible refine Below.alloc ?_ ?_ _) | (with_reducible refine Below.drew ?_) | (with_reducible refine below_dn ?_) | (with_reducible refine Below.setCell ?_ ?_ _) | (with_reducible exact Nat.le_refl _) | omega | (simp only [World.size_alloc, World.size_setCell, World.size_drew]; omega) | (simp; omega) | (simp; done)))) hb) (by (repeat' (first | (with_reducible exact Below.refl _ _) | (with_reducible assumption) | (with_reducible refine Below.alloc ?_ ?_ _) | (with_reducible refine Below.drew ?_) | (with_reducible refine below_dn ?_) | (with_reducible refine Below.setCell ?_ ?_ _) | (with_reducible exact Nat.le_refl _) | omega | (simp only [World.size_alloc, World.size_setCell, World.size_drew]; omega) | (simp; omega) | (simp; done))))) hb2⟩
set_option maxHeartbeats 400000 in
theorem untilref_any (l lo hi d t : Int) (w : World) (h : OkClk l lo hi d) :
    Calls Try.prog 32 #[clk l lo hi d, .int .i64 t] w fun e w' => (∃ u : Int, e = .returned (.int .i64 u) ∧ UntilIs l hi d t u) ∧ Below w.heap.size w w' := by
  have H := Lib.hid h
  obtain ⟨h1, h2, h3, h4, h5, h6, h7⟩ := h
  go_enter Try.func32, Try.ntmps32
  go_wp2
  go_loopw [5, 6] (fun i j wr => ∃ x y : Int, i = .int .i64 x ∧ j = .int .i64 y ∧ l - 1 ≤ x ∧ x < y ∧ y ≤ 2199023255553 ∧ Below (w.heap.size + 1) (w.alloc (Obj.cells #[Value.int IntKind.i64 l, Value.int IntKind.i64 lo, Value.int IntKind.i64 hi, Value.int IntKind.i64 d] 36)) wr ∧ Hid (l ≤ x → rdHi hi d (x - l) < t) ∧ Hid (y < 2199023255553 → t ≤ rdHi hi d (y - l))) (fun i j _ => (intOf j - intOf i).toNat)
  case atStart => exact ⟨l - 1, 2199023255553, rfl, rfl, by omega, by omega, by omega, Below.refl _ _, fun h => absurd h (by omega), fun h => absurd h (by omega)⟩
  case round =>
    obtain ⟨x, y, rfl, rfl, hx, hxy, hy, hB, g1, g2⟩ := hrel
    have hc0 : ∀ o, wr.cell? ⟨w.heap.size, o, none⟩ = (w.alloc (Obj.cells #[Value.int IntKind.i64 l, Value.int IntKind.i64 lo, Value.int IntKind.i64 hi, Value.int IntKind.i64 d] 36)).cell? ⟨w.heap.size, o, none⟩ := fun o => hB.cell (p := ⟨w.heap.size, o, none⟩) (by simp)
    by_cases hlt : 1 < y - x
    · have hm1 : l ≤ (x + y) / 2 := by omega
      have hm2 : (x + y) / 2 < y := by omega
      have hm3 : x < (x + y) / 2 := by omega
      have hm4 : (x + y) / 2 ≤ 2199023255552 := by omega
      have hs : w.heap.size + 1 ≤ wr.heap.size := by have := hB.size; simpa using this
      by_cases hp : rdHi hi d ((x + y) / 2 - l) < t
      all_goals
        go_wp2_with fail
        refine (early_any l lo hi d t _ _ H.out hm1 hm4).mono ?_
        rintro e w1 ⟨rfl, hb⟩
        have hB1 := hB.trans (hb.mono hs)
        go_wp2
        go_roundw
        case rel =>
          first
          | exact ⟨(x + y) / 2, y, rfl, rfl, by omega, by omega, by omega, hB1, fun _ => hp, g2⟩
          | exact ⟨x, (x + y) / 2, rfl, rfl, by omega, by omega, by omega, hB1, g1, fun _ => by omega⟩
        case measure => simp [intOf]; omega
    · obtain rfl : y = x + 1 := by omega
      have hs : w.heap.size + 1 ≤ wr.heap.size := by have := hB.size; simpa using this
      have hF : Below w.heap.size w wr := Below.trans (b := w.alloc (Obj.cells #[Value.int IntKind.i64 l, Value.int IntKind.i64 lo, Value.int IntKind.i64 hi, Value.int IntKind.i64 d] 36)) (by (repeat' (first | (with_reducible exact Below.refl _ _) | (with_reducible assumption) | (with_reducible refine Below.alloc ?_ ?_ _) | (with_reducible refine Below.drew ?_) | (with_reducible refine below_dn ?_) | (with_reducible refine Below.setCell ?_ ?_ _) | (with_reducible exact Nat.le_refl _) | omega | (simp only [World.size_alloc, World.size_setCell, World.size_drew]; omega) | (simp; omega) | (simp; done)))) (hB.mono (by omega))
      by_cases hs1 : l ≤ x
      · go_wp2
        go_ret
        exact ⟨⟨x, rfl, Or.inr ⟨hs1, by omega, g1.out hs1, fun hx => g2.out (by omega)⟩⟩, hF⟩
      · go_wp2
        go_ret
        exact ⟨⟨-1, rfl, Or.inl ⟨rfl, fun z hz1 hz2 => by
          have h0 := g2.out (by omega)
          have := rdHi_mono hi d (x + 1 - l) (z - l) h7 (by omega)
          omega⟩⟩, hF⟩
noncomputable def untilF (l hi d t : Int) : Int := Classical.epsilon (UntilIs l hi d t)
theorem untilF_is {l hi d t u : Int} (h : UntilIs l hi d t u) : UntilIs l hi d t (untilF l hi d t) := Classical.epsilon_spec ⟨u, h⟩
theorem untilF_eq {l lo hi d t u : Int} (k : OkClk l lo hi d) (h : UntilIs l hi d t u) : untilF l hi d t = u := (untilF_is h).uniq k.2.2.2.2.2.2 h
theorem UntilIs.bd {l hi d t u : Int} (hl : 0 ≤ l) (h : UntilIs l hi d t u) : -1 ≤ u ∧ u ≤ 2199023255552 := by
  rcases h with ⟨h1, h2⟩ | ⟨h1, h2, h3, h4⟩ <;> omega
theorem until_fn (l lo hi d t : Int) (w : World) (h : OkClk l lo hi d) :
    Calls Try.prog 31 #[clk l lo hi d, .int .i64 t] w fun e w' => (e = .returned (.int .i64 (untilF l hi d t)) ∧ UntilIs l hi d t (untilF l hi d t)) ∧ Below w.heap.size w w' :=
  (until_any l lo hi d t w h).mono fun e w' ⟨⟨u, he, hu⟩, hb⟩ => ⟨⟨by rw [untilF_eq h hu]; exact he, untilF_is hu⟩, hb⟩
theorem untilref_fn (l lo hi d t : Int) (w : World) (h : OkClk l lo hi d) :
    Calls Try.prog 32 #[clk l lo hi d, .int .i64 t] w fun e w' => (e = .returned (.int .i64 (untilF l hi d t)) ∧ UntilIs l hi d t (untilF l hi d t)) ∧ Below w.heap.size w w' :=
  (untilref_any l lo hi d t w h).mono fun e w' ⟨⟨u, he, hu⟩, hb⟩ => ⟨⟨by rw [untilF_eq h hu]; exact he, untilF_is hu⟩, hb⟩
theorem worth_out (l lo hi d x t : Int) (w : World) (h : x < l ∨ 2199023255552 < x) :
    Calls Try.prog 33 #[clk l lo hi d, .int .i64 x, .int .i64 t] w fun e w' => e = .returned (.int .i64 0) ∧ Below w.heap.size w w' := by
  rcases h with h | h
  all_goals
    go_enter Try.func33, Try.ntmps33
    go_wp2
    all_goals
      go_ret
      exact ⟨rfl, by (repeat' (first | (with_reducible exact Below.refl _ _) | (with_reducible assumption) | (with_reducible refine Below.alloc ?_ ?_ _) | (with_reducible refine Below.drew ?_) | (with_reducible refine below_dn ?_) | (with_reducible refine Below.setCell ?_ ?_ _) | (with_reducible exact Nat.le_refl _) | omega | (simp only [World.size_alloc, World.size_setCell, World.size_drew]; omega) | (simp; omega) | (simp; done)))⟩
theorem worthref_out (l lo hi d x t : Int) (w : World) (h : x < l ∨ 2199023255552 < x) :
    Calls Try.prog 34 #[clk l lo hi d, .int .i64 x, .int .i64 t] w fun e w' => e = .returned (.int .i64 0) ∧ Below w.heap.size w w' := by
  rcases h with h | h
  all_goals
    go_enter Try.func34, Try.ntmps34
    go_wp2
    all_goals
      go_ret
      exact ⟨rfl, by (repeat' (first | (with_reducible exact Below.refl _ _) | (with_reducible assumption) | (with_reducible refine Below.alloc ?_ ?_ _) | (with_reducible refine Below.drew ?_) | (with_reducible refine below_dn ?_) | (with_reducible refine Below.setCell ?_ ?_ _) | (with_reducible exact Nat.le_refl _) | omega | (simp only [World.size_alloc, World.size_setCell, World.size_drew]; omega) | (simp; omega) | (simp; done)))⟩
theorem worth_in (l lo hi d x t : Int) (w : World) (h : OkClk l lo hi d) (k1 : l ≤ x) (k2 : x ≤ 2199023255552) :
    Calls Try.prog 33 #[clk l lo hi d, .int .i64 x, .int .i64 t] w fun e w' => e = .returned (.int .i64 (max 0 (untilF l hi d t + 1 - x))) ∧ Below w.heap.size w w' := by
  have H := Lib.hid h
  obtain ⟨h1, h2, h3, h4, h5, h6, h7⟩ := h
  go_enter Try.func33, Try.ntmps33
  go_wp2_with fail
  refine (until_fn l lo hi d t _ H.out).mono ?_
  rintro e w1 ⟨⟨rfl, hu⟩, hb⟩
  obtain ⟨b1, b2⟩ := hu.bd h1
  have HU := Lib.hid hu; clear hu
  go_wp2
  go_ret
  exact ⟨rfl, bt (by (repeat' (first | (with_reducible exact Below.refl _ _) | (with_reducible assumption) | (with_reducible refine Below.alloc ?_ ?_ _) | (with_reducible refine Below.drew ?_) | (with_reducible refine below_dn ?_) | (with_reducible refine Below.setCell ?_ ?_ _) | (with_reducible exact Nat.le_refl _) | omega | (simp only [World.size_alloc, World.size_setCell, World.size_drew]; omega) | (simp; omega) | (simp; done)))) hb⟩
theorem worthref_in (l lo hi d x t : Int) (w : World) (h : OkClk l lo hi d) (k1 : l ≤ x) (k2 : x ≤ 2199023255552) :
    Calls Try.prog 34 #[clk l lo hi d, .int .i64 x, .int .i64 t] w fun e w' => e = .returned (.int .i64 (max 0 (untilF l hi d t + 1 - x))) ∧ Below w.heap.size w w' := by
  have H := Lib.hid h
  obtain ⟨h1, h2, h3, h4, h5, h6, h7⟩ := h
  go_enter Try.func34, Try.ntmps34
  go_wp2_with fail
  refine (untilref_fn l lo hi d t _ H.out).mono ?_
  rintro e w1 ⟨⟨rfl, hu⟩, hb⟩
  obtain ⟨b1, b2⟩ := hu.bd h1
  have HU := Lib.hid hu; clear hu
  go_wp2
  all_goals
    go_ret
    exact ⟨ret_int (by omega), bt (by (repeat' (first | (with_reducible exact Below.refl _ _) | (with_reducible assumption) | (with_reducible refine Below.alloc ?_ ?_ _) | (with_reducible refine Below.drew ?_) | (with_reducible refine below_dn ?_) | (with_reducible refine Below.setCell ?_ ?_ _) | (with_reducible exact Nat.le_refl _) | omega | (simp only [World.size_alloc, World.size_setCell, World.size_drew]; omega) | (simp; omega) | (simp; done)))) hb⟩
end Go.Proofs.Ytnojnfmhinjcpaa
