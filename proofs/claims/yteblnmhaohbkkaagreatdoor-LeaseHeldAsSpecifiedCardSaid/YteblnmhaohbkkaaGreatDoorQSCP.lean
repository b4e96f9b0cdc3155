/- Contracts: CheckEpoch of the program. -/
import Derived.Test.YteblnmhaohbkkaaGreatDoorQSEP
import Derived.Test.YteblnmhaohbkkaaGreatDoorQSCR
import Derived.Deep.RegionHeld
namespace Go.Proofs.YteblnmhaohbkkaaGreatDoor
set_option linter.unusedVariables false
set_option linter.unusedSimpArgs false
open Go.RowKit Go.Sort
end Go.Proofs.YteblnmhaohbkkaaGreatDoor
