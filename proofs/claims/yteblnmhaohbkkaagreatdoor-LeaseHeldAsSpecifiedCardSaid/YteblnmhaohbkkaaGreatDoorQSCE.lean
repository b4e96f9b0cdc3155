/- Contracts: slices.Clone at purges and digests. -/
import Derived.Test.YteblnmhaohbkkaaGreatDoorQSEP
import Derived.Test.YteblnmhaohbkkaaGreatDoorQBC
namespace Go.Proofs.YteblnmhaohbkkaaGreatDoor
set_option linter.unusedVariables false
set_option linter.unusedSimpArgs false
open Go.RowKit
theorem encPu_one (a : Pu) : ∀ v ∈ encPu a, v.oneCell' = true := by
  intro v hv
  simp only [encPu, List.mem_cons, List.not_mem_nil, or_false] at hv
  rcases hv with rfl | rfl | rfl <;> rfl
theorem encDg_one (a : Dg) : ∀ v ∈ encDg a, v.oneCell' = true := by
  intro v hv
  obtain ⟨x, -, rfl⟩ := List.mem_map.1 hv
  rfl
namespace Cp
abbrev AcA := RowsA 3 encPu
end Cp
namespace Cd
abbrev AcA := RowsA 16 encDg
end Cd
end Go.Proofs.YteblnmhaohbkkaaGreatDoor
