/- Ported from another seat (wip/hash/P10.src, by wip/port.py): contracts that this chapter calls. -/
import Derived.Test.YtmmjkhamknfhpaaDoorHW
import Derived.Test.YtmmjkhamknfhpaaDoorHM2
namespace Go.Proofs.YtmmjkhamknfhpaaDoor
set_option linter.unusedVariables false
set_option linter.unusedSimpArgs false
open Go.RowKit
theorem OwnB.empty (w : World) (B g : Nat) (h : w.heap.size = g) (hB : B ≤ g) : OwnB (w.alloc (.cells #[] 5)) B (.slice (some ⟨g, 0, none⟩) 0 0) [] := by
  subst h
  exact ⟨rfl, .inr ⟨w.heap.size, 0, #[], rfl, hB, heap_alloc_new w _, Nat.le_refl _, Nat.zero_le _, rfl, rfl⟩⟩
end Go.Proofs.YtmmjkhamknfhpaaDoor
