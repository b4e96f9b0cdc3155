import Derived.Test.YteblnmhaohbkkaaDoorRP3
import Derived.Lib.SlBytesConst
import Derived.Test.YteblnmhaohbkkaaDoorRP1
namespace Go.Proofs.YteblnmhaohbkkaaDoor
set_option linter.unusedVariables false
set_option linter.unusedSimpArgs false
set_option linter.unusedSectionVars false
section
namespace Hs
open Go.RowKit
set_option maxRecDepth 100000 in
theorem BytesA.lt {W : World} {a : Option Addr} {l : List Nat} (h : BytesA W a l) : ∀ x ∈ l, x < 256 := fun x hx => by
  obtain ⟨k, hk, rfl⟩ := List.getElem_of_mem hx
  obtain ⟨_, _, _, _, h2⟩ := h k hk
  rwa [List.getD_eq_getElem?_getD, List.getElem?_eq_getElem hk] at h2
end Hs
end
section
namespace Hs
open Go.RowKit
set_option maxRecDepth 100000 in
theorem OwnB.empty (w : World) (B g : Nat) (h : w.heap.size = g) (hB : B ≤ g) : OwnB (w.alloc (.cells #[] 5)) B (.slice (some ⟨g, 0, none⟩) 0 0) [] := by
  subst h
  exact ⟨rfl, .inr ⟨w.heap.size, 0, #[], rfl, hB, heap_alloc_new w _, Nat.le_refl _, Nat.zero_le _, rfl, rfl⟩⟩
end Hs
end
section
namespace Hs
open Go.RowKit
def lenOf : Value → Nat
  | .slice _ n _ => n
  | _ => 0
end Hs
end
section
namespace Hs
open Go.RowKit
end Hs
end
section
namespace Hs
open Go.RowKit
attribute [local go_sem] zeroSt
attribute [local simp] zeroSt_ne
end Hs
end
end Go.Proofs.YteblnmhaohbkkaaDoor
