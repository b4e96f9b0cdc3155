/- A sketch as an argument, opened. -/
import Derived.Test.YtmmjkhamknfhpaaDoorHO5
import Derived.Test.YtmmjkhamknfhpaaDoorHO4
namespace Go.Proofs.YtmmjkhamknfhpaaDoor
set_option linter.unusedVariables false
set_option linter.unusedSimpArgs false
open Go.ChangeShapes Go.WideShapes Go.ChangeAt Go.RowKit Go.Joins Go.Deep Go.ChangeMaps
section
variable {H : Type} {enc : TypeId × Value → H} {W : World} {base : Nat} {v : Value} {d : DataW H} {p : List MemPlace}
theorem open_row {n : Nat} {v : Value} {y : DataW H × List MemPlace} (hf : DataW.trod enc Tryd.prog W 0 (fun _ => true) true n 22 [v] = some y) :
    ∃ (a : Option Addr) (cap : Nat) (zs : List Int), v = .slice a zs.length cap ∧ IntsA W a zs ∧ zs.length ≤ 9223372036854775807 := by
  obtain ⟨a0, len, cap, e⟩ := slice_form Tryd.underlying22 hf
  simp only [List.cons.injEq, and_true] at e
  subst e
  rcases open_ints Tryd.underlying22 Tryd.underlying3 cells3 hf with ⟨hcs, hx⟩ | ⟨a, len', cap', zs, hcs, hb, hl, hm, hz, hx, hcell, hwz⟩
  · simp only [List.cons.injEq, Value.slice.injEq, and_true] at hcs
    obtain ⟨rfl, rfl, rfl⟩ := hcs
    exact ⟨none, 0, [], rfl, fun k hk => absurd hk (by simp), by simp⟩
  · simp only [List.cons.injEq, Value.slice.injEq, and_true] at hcs
    obtain ⟨rfl, rfl, rfl⟩ := hcs
    have hz' : zs.length = cap := by simpa using hz
    have hlen : (zs.take len).length = len := by simp; omega
    refine ⟨some a, cap, zs.take len, by rw [hlen], ?_, by rw [hlen]; unfold maxLen at hm; omega⟩
    intro k hk
    rw [hlen] at hk
    obtain ⟨b, off, rfl, hc'⟩ := ints_at hcell (by omega)
    have hg : (zs.take len).getD k 0 = zs.getD k 0 := by simp [List.getD, List.getElem?_take, hk]
    rw [hg]
    exact ⟨b, off, rfl, hc' k (by omega)⟩
theorem open_i {n : Nat} {v : Value} {y : DataW H × List MemPlace} (hf : DataW.trod enc Tryd.prog W 0 (fun _ => true) true n 3 [v] = some y) : ∃ t : Int, v = .int .i64 t ∧ -9223372036854775808 ≤ t ∧ t ≤ 9223372036854775807 := by
  obtain ⟨t, e1, e2, w1⟩ := DataW.trod_int Tryd.underlying3 hf

  simp only [List.cons.injEq, and_true] at e1
  exact ⟨t, e1, (bounds_i64 w1).1, (bounds_i64 w1).2⟩
theorem open_sketch (hv : Value.okWide Tryd.prog W .any base 24 v) (h : DataW.Trod enc Tryd.prog W 0 (fun _ => true) true 24 v d p) :
    ∃ (W0 S A : Int) (a : Option Addr) (cap : Nat) (l : List Int), v = .agg #[.int .i64 W0, .int .i64 S, .int .i64 A, .slice a l.length cap] ∧ IntsA W a l ∧ l.length ≤ 9223372036854775807 ∧
      (-9223372036854775808 ≤ W0 ∧ W0 ≤ 9223372036854775807) ∧ (-9223372036854775808 ≤ S ∧ S ≤ 9223372036854775807) ∧ (-9223372036854775808 ≤ A ∧ A ≤ 9223372036854775807) := by
  obtain ⟨v0, v1, v2, v3, y0, y1, y2, y3, n, rfl, -, -, h0, h1, h2, h3⟩ := open_agg4 Tryd.underlying24 (by kernel_rfl) (by kernel_rfl) hv h
  obtain ⟨W0, rfl, b0⟩ := open_i h0
  obtain ⟨S, rfl, b1⟩ := open_i h1
  obtain ⟨A, rfl, b2⟩ := open_i h2
  obtain ⟨a, cap, l, rfl, hp, hm⟩ := open_row h3
  exact ⟨W0, S, A, a, cap, l, rfl, hp, hm, b0, b1, b2⟩
end
end Go.Proofs.YtmmjkhamknfhpaaDoor
