/- Ported from another seat (wip/hash/BB.src, by wip/port.py): contracts that this chapter calls. -/
import Derived.Test.YtcdcnklfcmoiiaaDoorHAA
import Derived.Test.YtcdcnklfcmoiiaaDoorHT
namespace Go.Proofs.YtcdcnklfcmoiiaaDoor
set_option linter.unusedVariables false
set_option linter.unusedSimpArgs false
namespace Hs
open Go.RowKit
/-- The cells of a stream that holds m. -/
def InS (X : Array Value) (m : List Nat) : Prop := ∃ s r, Is s r m ∧ X = svA s r m.length
set_option maxRecDepth 100000 in
theorem InS.size {X : Array Value} {m : List Nat} (h : InS X m) : X.size = 73 := by obtain ⟨s, r, h, rfl⟩ := h; exact svA_size _ _ _ h.len
set_option maxRecDepth 100000 in
theorem InS.one {X : Array Value} {m : List Nat} (h : InS X m) : X.all (·.oneCell') = true := by obtain ⟨s, r, h, rfl⟩ := h; exact svA_one _ _ _
set_option maxRecDepth 100000 in
theorem InS.info {X : Array Value} {m : List Nat} (h : InS X m) : (Tryd.prog.info? 123).map (·.size) = some X.size := by rw [h.size]; kernel_rfl
set_option maxRecDepth 100000 in
theorem InS.old {X : Array Value} {m : List Nat} (h : InS X m) : (svA st00 z64 0).size = X.size := by rw [h.size]; rfl
set_option maxRecDepth 100000 in
theorem inSum_any (X : Array Value) (m : List Nat) (w : World) (h : InS X m) (hN : m.length < 1152921504606846976) (hla : LaidC w) :
    Calls Tryd.prog 89 #[.agg X] w fun e w' => e = .returned (.agg (bvs (sha m))) ∧ Below w.heap.size w w' := by
  obtain ⟨s, r, hI, rfl⟩ := h
  exact sum_any s r m w hI hN hla
end Hs
end Go.Proofs.YtcdcnklfcmoiiaaDoor
