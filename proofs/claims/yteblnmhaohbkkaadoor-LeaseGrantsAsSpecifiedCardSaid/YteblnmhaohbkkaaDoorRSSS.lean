/- Contracts: SealStamp and SealHead of the program. -/
import Derived.Test.YteblnmhaohbkkaaDoorRSPT
import Derived.Deep.RegionHeld
namespace Go.Proofs.YteblnmhaohbkkaaDoor
set_option linter.unusedVariables false
set_option linter.unusedSimpArgs false
open Go.RowKit Go.Sort
end Go.Proofs.YteblnmhaohbkkaaDoor
