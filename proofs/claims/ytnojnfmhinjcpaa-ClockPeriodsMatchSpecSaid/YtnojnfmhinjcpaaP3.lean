import Derived.Test.YtnojnfmhinjcpaaP3in
import Derived.Test.YtnojnfmhinjcpaaP3low
import Derived.Test.YtnojnfmhinjcpaaP3high
namespace Go.Proofs.Ytnojnfmhinjcpaa
set_option linter.unusedVariables false
set_option linter.unusedSimpArgs false
open Go.RowKit Go.Sort
theorem periodsMatchSpec (a b c d n t : Int) (w : World) (hs : ∀ W, Sane W) :
    Calls Try.prog 3 #[per a b, per c d, .int .i64 n, .int .i64 t] w fun e w' => e = .returned (.bool true) ∧ Below w.heap.size w w' := by
  by_cases h : validB a b = true
  · by_cases k : validB c d = true
    · by_cases k1 : 0 ≤ n
      · by_cases k2 : n ≤ 1099511627776
        · exact periods_in _ _ _ _ _ _ _ hs h k k1 k2
        · exact periods_high _ _ _ _ _ _ _ hs h k (by omega)
      · exact periods_low _ _ _ _ _ _ _ hs h k (by omega)
    · exact periods_two _ _ _ _ _ _ _ hs h (by simpa using k)
  · exact periods_one _ _ _ _ _ _ _ hs (by simpa using h)
end Go.Proofs.Ytnojnfmhinjcpaa
