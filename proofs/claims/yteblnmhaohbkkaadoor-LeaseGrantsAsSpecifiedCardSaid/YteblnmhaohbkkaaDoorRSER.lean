/- Contracts: the parts of an epoch of the reference. -/
import Derived.Test.YteblnmhaohbkkaaDoorRSEP
import Derived.Test.YteblnmhaohbkkaaDoorRSPR
namespace Go.Proofs.YteblnmhaohbkkaaDoor
set_option linter.unusedVariables false
set_option linter.unusedSimpArgs false
open Go.RowKit Go.Sort
end Go.Proofs.YteblnmhaohbkkaaDoor
