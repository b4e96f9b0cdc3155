/- Ported from another seat (wip/hash/O10.src, by wip/port.py): contracts that this chapter calls. -/
import Derived.Test.YtmmjkhamknfhpaaDoorHO
namespace Go.Proofs.YtmmjkhamknfhpaaDoor
set_option linter.unusedVariables false
set_option linter.unusedSimpArgs false
open Go.ChangeShapes Go.WideShapes Go.ChangeAt Go.RowKit Go.Joins Go.Deep Go.ChangeMaps
section
variable {H : Type} {enc : TypeId × Value → H} {W : World} {base : Nat} {v : Value} {d : DataW H} {p : List MemPlace}
theorem open_u16 (hv : Value.okWide Tryd.prog W .any base 45 v) (h : DataW.Trod enc Tryd.prog W 0 (fun _ => true) true 45 v d p) : ∃ t : Nat, v = .int .u16 t ∧ t ≤ 65535 := by
  obtain ⟨t, rfl, rfl, rfl, w2⟩ := open_int Tryd.underlying45 hv h
  have := bounds_u16 w2
  exact ⟨t.toNat, by rw [Int.toNat_of_nonneg this.1], by omega⟩
theorem open_u8 (hv : Value.okWide Tryd.prog W .any base 5 v) (h : DataW.Trod enc Tryd.prog W 0 (fun _ => true) true 5 v d p) : ∃ t : Nat, v = .int .u8 t ∧ t < 256 := by
  obtain ⟨t, rfl, rfl, rfl, w2⟩ := open_int Tryd.underlying5 hv h
  have := bounds_u8 w2
  exact ⟨t.toNat, by rw [Int.toNat_of_nonneg this.1], by omega⟩
end
end Go.Proofs.YtmmjkhamknfhpaaDoor
