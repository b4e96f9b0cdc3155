import Derived.Test.YtnojnfmhinjcpaaS
import Derived.Test.YtnojnfmhinjcpaaE
import Derived.OpenShut
namespace Go.Proofs.Ytnojnfmhinjcpaa
set_option linter.unusedVariables false
set_option linter.unusedSimpArgs false
open Go.RowKit Go.Sort
/-- The cells of a boxed clock and of a boxed instant. -/
structure Cap (k m : Nat) (l lo hi d t : Int) (W : World) : Prop where
  c0 : W.cell? ⟨k, 0, none⟩ = some (.int .i64 l)
  c1 : W.cell? ⟨k, 1, none⟩ = some (.int .i64 lo)
  c2 : W.cell? ⟨k, 2, none⟩ = some (.int .i64 hi)
  c3 : W.cell? ⟨k, 3, none⟩ = some (.int .i64 d)
  c4 : W.cell? ⟨m, 0, none⟩ = some (.int .i64 t)
theorem keep {W W' : World} {b o : Nat} {v : Value} (h : W.cell? ⟨b, o, none⟩ = some v) (hb : Below W.heap.size W W') : W'.cell? ⟨b, o, none⟩ = some v := by
  rw [hb.cell (p := ⟨b, o, none⟩) (block_lt_of_cell h)]; exact h
theorem Cap.mono {k m : Nat} {l lo hi d t : Int} {W W' : World} (h : Cap k m l lo hi d t W) (hb : Below W.heap.size W W') : Cap k m l lo hi d t W' :=
  ⟨keep h.c0 hb, keep h.c1 hb, keep h.c2 hb, keep h.c3 hb, keep h.c4 hb⟩
set_option maxHeartbeats 400000 in
theorem until1_any (k m : Nat) (l lo hi d t i : Int) (w : World) (h : OkClk l lo hi d) (hi0 : 0 ≤ i) (hi1 : l + i ≤ 2199023255552) (hc : Cap k m l lo hi d t w) :
    Calls Try.prog 43 #[.int .i64 i, .pointer (some ⟨k, 0, none⟩), .pointer (some ⟨m, 0, none⟩)] w fun e w' => e = .returned (.bool (!decide (rdHi hi d (l + i - l) < t))) ∧ Below w.heap.size w w' := by
  obtain ⟨c0, c1, c2, c3, c4⟩ := hc
  have H := Lib.hid h
  obtain ⟨h1, h2, h3, h4, h5, h6, h7⟩ := h
  have b4 := block_lt_of_cell c4
  simp only at b4
  go_enter Try.func43, Try.ntmps43
  go_wp2_with fail
  refine (read_ok l lo hi d (l + i) _ H.out hi1 (by omega)).mono ?_
  rintro e w1 ⟨rfl, hb⟩
  have k4 := keep c4 hb
  have b5 := Nat.lt_of_lt_of_le b4 hb.size
  go_wp2_with fail
  refine (before_any _ _ _ _).mono ?_
  rintro e w2 ⟨rfl, hb2⟩
  go_wp2
  go_ret
  exact ⟨rfl, bt (bt hb (by (repeat' (first | (with_reducible exact Below.refl _ _) | (with_reducible assumption) | (with_reducible refine Below.alloc ?_ ?_ _) | (with_reducible refine Below.drew ?_) | (with_reducible refine below_dn ?_) | (with_reducible refine Below.setCell ?_ ?_ _) | (with_reducible exact Nat.le_refl _) | omega | (simp only [World.size_alloc, World.size_setCell, World.size_drew]; omega) | (simp; omega) | (simp; done))))) hb2⟩
set_option maxHeartbeats 400000 in
theorem until_any (l lo hi d t : Int) (w : World) (h : OkClk l lo hi d) :
    Calls Try.prog 31 #[clk l lo hi d, .int .i64 t] w fun e w' => (∃ u : Int, e = .returned (.int .i64 u) ∧ UntilIs l hi d t u) ∧ Below w.heap.size w w' := by
  have H := Lib.hid h
  obtain ⟨h1, h2, h3, h4, h5, h6, h7⟩ := h
  go_enter Try.func31, Try.ntmps31
  go_wp2_with fail
  refine (search_any (2199023255552 - l + 1) _ _ (fun i => !decide (rdHi hi d (l + i - l) < t)) (Cap w.heap.size (w.heap.size + 1) l lo hi d t) _ (by omega) (by omega) (fun W W' => Cap.mono) ⟨by go_cell, by go_cell, by go_cell, by go_cell, by go_cell⟩ (fun i W hi0 hi1 hI => until1_any _ _ l lo hi d t i W H.out hi0 (by omega) hI)).mono ?_
  rintro e w1 ⟨⟨r, rfl, hr0, hr1, hr2, hr3⟩, hb⟩
  have R2 := Lib.hid hr2
  have R3 := Lib.hid hr3
  clear hr2 hr3
  have z1 := keep (b := w.heap.size) (o := 0) (v := .int .i64 l) (by go_cell) hb
  by_cases hz : r = 0
  · subst hz
    go_wp2
    go_ret
    exact ⟨⟨-1, rfl, Or.inl ⟨rfl, fun x hx1 hx2 => by
      have h0 := R3.out (by omega)
      have := rdHi_mono hi d (l + 0 - l) (x - l) h7 (by omega)
      have e0 : l + 0 - l = 0 := by omega
      rw [e0] at this h0; simp at h0; omega⟩⟩, bt (by (repeat' (first | (with_reducible exact Below.refl _ _) | (with_reducible assumption) | (with_reducible refine Below.alloc ?_ ?_ _) | (with_reducible refine Below.drew ?_) | (with_reducible refine below_dn ?_) | (with_reducible refine Below.setCell ?_ ?_ _) | (with_reducible exact Nat.le_refl _) | omega | (simp only [World.size_alloc, World.size_setCell, World.size_drew]; omega) | (simp; omega) | (simp; done)))) hb⟩
  · have hz' : (r == 0) = false := by simpa using hz
    go_wp2
    go_ret
    refine ⟨⟨l + r - 1, rfl, Or.inr ⟨by omega, by omega, ?_, fun hx => ?_⟩⟩, bt (by (repeat' (first | (with_reducible exact Below.refl _ _) | (with_reducible assumption) | (with_reducible refine Below.alloc ?_ ?_ _) | (with_reducible refine Below.drew ?_) | (with_reducible refine below_dn ?_) | (with_reducible refine Below.setCell ?_ ?_ _) | (with_reducible exact Nat.le_refl _) | omega | (simp only [World.size_alloc, World.size_setCell, World.size_drew]; omega) | (simp; omega) | (simp; done)))) hb⟩
    · have h0 := R2.out (by omega)
      have e : l + (r - 1) - l = l + r - 1 - l := by omega
      simp only [e] at h0; simpa using h0
    · have h0 := R3.out (by omega)
      have e : l + r - 1 + 1 - l = l + r - l := by omega
      rw [e]; simpa using h0
end Go.Proofs.Ytnojnfmhinjcpaa
