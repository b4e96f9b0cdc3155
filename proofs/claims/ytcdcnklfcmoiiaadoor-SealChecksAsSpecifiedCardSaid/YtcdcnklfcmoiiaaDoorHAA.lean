/- Ported from another seat (wip/hash/AA.src, by wip/port.py): contracts that this chapter calls. -/
import Derived.Test.YtcdcnklfcmoiiaaDoorHW
namespace Go.Proofs.YtcdcnklfcmoiiaaDoor
set_option linter.unusedVariables false
set_option linter.unusedSimpArgs false
namespace Hs
open Go.RowKit
def StrsA (W : World) (a : Option Addr) (ss : List ByteArray) : Prop :=
  ∀ k, k < ss.length → ∃ b off, a = some ⟨b, off, none⟩ ∧ W.cell? ⟨b, off + k, none⟩ = some (.string (ss.getD k ByteArray.empty))
set_option maxRecDepth 100000 in
theorem StrsA.mono {W W' : World} {a : Option Addr} {ss : List ByteArray} (h : StrsA W a ss) (hb : Below W.heap.size W W') : StrsA W' a ss := by
  intro k hk
  obtain ⟨b, off, e, h1⟩ := h k hk
  exact ⟨b, off, e, keep h1 hb⟩
set_option maxRecDepth 100000 in
theorem StrsA.take {W : World} {a : Option Addr} {ss : List ByteArray} (h : StrsA W a ss) (n : Nat) : StrsA W a (ss.take n) := by
  intro k hk
  rw [List.length_take] at hk
  obtain ⟨b, off, e, h1⟩ := h k (by omega)
  refine ⟨b, off, e, ?_⟩
  rw [h1, List.getD_eq_getElem?_getD, List.getD_eq_getElem?_getD, List.getElem?_take, if_pos (by omega)]
def Few (ss : List ByteArray) : Prop := ss.length ≤ 40 ∧ ∀ s ∈ ss, s.size ≤ 400
set_option maxRecDepth 100000 in
theorem mem_getD {ss : List ByteArray} {k : Nat} (h : k < ss.length) : ss.getD k ByteArray.empty ∈ ss := by
  rw [List.getD_eq_getElem?_getD, List.getElem?_eq_getElem h]
  exact List.getElem_mem h
end Hs
end Go.Proofs.YtcdcnklfcmoiiaaDoor
