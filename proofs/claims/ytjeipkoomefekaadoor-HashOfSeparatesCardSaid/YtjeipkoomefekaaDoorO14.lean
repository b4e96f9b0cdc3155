/- An array of two bytes, opened. -/
import Derived.Test.YtjeipkoomefekaaDoorO4
import Derived.OpenShut
namespace Go.Proofs.YtjeipkoomefekaaDoor
set_option linter.unusedVariables false
set_option linter.unusedSimpArgs false
open Go.ChangeShapes Go.WideShapes Go.ChangeAt Go.RowKit Go.Joins Go.Deep Go.ChangeMaps
section
variable {H : Type} {enc : TypeId × Value → H} {W : World} {base : Nat} {v : Value} {d : DataW H} {p : List MemPlace}
theorem open_two (hv : Value.okWide Tryd.prog W .any base 62 v) (h : DataW.Trod enc Tryd.prog W 0 (fun _ => true) true 62 v d p) : ∃ t0 t1 : Nat, v = .agg #[bv t0, bv t1] ∧ t0 < 256 ∧ t1 < 256 := by
  simp only [Value.okWide, Tryd.underlying62] at hv
  obtain ⟨cs, rfl, hsz, -⟩ := hv
  have hC : Tryd.prog.cellsOf 62 = 2 := by kernel_rfl
  obtain ⟨c0, c1, rfl⟩ := array2 (hsz.trans hC)
  obtain ⟨fuel, hf⟩ := h
  obtain ⟨xs, m, -, -, -, hl, hx⟩ := DataW.trod_array Tryd.underlying62 hf
  have g : ∀ i, i < 2 → ∃ x, xs[i]? = some x := fun i hi => ⟨_, List.getElem?_eq_getElem (by omega)⟩
  obtain ⟨x0, g0⟩ := g 0 (by decide)
  obtain ⟨x1, g1⟩ := g 1 (by decide)
  have h0 := hx 0 (by decide)
  have h1 := hx 1 (by decide)
  rw [g0] at h0
  rw [g1] at h1
  obtain ⟨n0, e0, -, w0⟩ := DataW.trod_int Tryd.underlying5 h0
  obtain ⟨n1, e1, -, w1⟩ := DataW.trod_int Tryd.underlying5 h1
  rw [cells5] at e0 e1
  simp [Value.cells] at e0 e1
  subst e0; subst e1
  have b0 := bounds_u8 w0
  have b1 := bounds_u8 w1
  exact ⟨n0.toNat, n1.toNat, by unfold bv; rw [Int.toNat_of_nonneg b0.1, Int.toNat_of_nonneg b1.1], by omega, by omega⟩
end
end Go.Proofs.YtjeipkoomefekaaDoor
