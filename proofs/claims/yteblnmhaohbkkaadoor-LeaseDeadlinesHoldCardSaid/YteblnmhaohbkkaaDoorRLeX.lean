import Derived.Test.YteblnmhaohbkkaaDoorRLeY
import Derived.Test.YteblnmhaohbkkaaDoorRLeC
namespace Go.Proofs.YteblnmhaohbkkaaDoor
set_option linter.unusedVariables false
set_option linter.unusedSimpArgs false
set_option linter.unusedSectionVars false
namespace Le
open Go.RowKit Go.Sort
end Le
end Go.Proofs.YteblnmhaohbkkaaDoor
