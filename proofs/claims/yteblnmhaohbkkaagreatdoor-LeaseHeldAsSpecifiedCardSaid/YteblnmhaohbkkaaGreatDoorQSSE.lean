/- Contracts: SealEpoch of the program. -/
import Derived.Test.YteblnmhaohbkkaaGreatDoorQSCE
import Derived.Deep.RegionHeld
namespace Go.Proofs.YteblnmhaohbkkaaGreatDoor
set_option linter.unusedVariables false
set_option linter.unusedSimpArgs false
open Go.RowKit Go.Sort
/-- Both rows lie at or behind a place. -/
def FrE (a1 a2 : Option Addr) (B : Nat) : Prop := (∀ p, a1 = some p → B ≤ p.block) ∧ (∀ p, a2 = some p → B ≤ p.block)
end Go.Proofs.YteblnmhaohbkkaaGreatDoor
