/- Contracts: the parts of an epoch of the reference. -/
import Derived.Test.YteblnmhaohbkkaaGreatDoorQSEP
import Derived.Test.YteblnmhaohbkkaaGreatDoorQSPR
namespace Go.Proofs.YteblnmhaohbkkaaGreatDoor
set_option linter.unusedVariables false
set_option linter.unusedSimpArgs false
open Go.RowKit Go.Sort
end Go.Proofs.YteblnmhaohbkkaaGreatDoor
