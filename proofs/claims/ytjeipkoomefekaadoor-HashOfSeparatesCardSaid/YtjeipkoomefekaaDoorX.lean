/- A string, turned into bytes. -/
import Derived.Test.YtjeipkoomefekaaDoorW
namespace Go.Proofs.YtjeipkoomefekaaDoor
set_option linter.unusedVariables false
set_option linter.unusedSimpArgs false
open Go.RowKit
theorem strB_at (m : List Nat) (hm : ∀ x ∈ m, x < 256) (j : Nat) (hj : j < (strB m).data.size) : (strB m).data[j].toNat = m.getD j 0 := by
  have e := sb_strB m hm
  have : (sb (strB m)).getD j 0 = m.getD j 0 := by rw [e]
  rw [← this]
  unfold sb
  rw [List.getD_eq_getElem?_getD, List.getElem?_map, List.getElem?_eq_getElem (by simpa using hj)]
  rfl
theorem cell_new3 (W : World) (C : Array Value) (t : TypeId) (fr : Nat × Nat) (k : Nat) : (W.drew.alloc (.cells C t fr)).cell? ⟨W.heap.size, k, none⟩ = C[k]? := by
  have hg : (W.drew.alloc (.cells C t fr)).heap[W.heap.size]? = some (.cells C t fr) := heap_alloc_new W.drew _
  simp only [World.cell?, hg]
  rfl
theorem str_conv (m : List Nat) (hm : ∀ x ∈ m, x < 256) : ∃ (G : World → Nat) (O : World → Obj), ∀ W, (convert 9 22 (.string (strB m))).run Tryd.prog W = .ok (.slice (some ⟨W.heap.size, 0, none⟩) m.length (G W)) (W.drew.alloc (O W)) ∧ BytesA (W.drew.alloc (O W)) (some ⟨W.heap.size, 0, none⟩) m := by
  refine ⟨fun W => grownCap W (strB m).size 0 5, fun W => .cells (bytesRow (strB m) (grownCap W (strB m).size 0 5)) 5 ((bytesRow (strB m) (grownCap W (strB m).size 0 5)).size, (bytesRow (strB m) (grownCap W (strB m).size 0 5)).size + 1), fun W => ⟨?_, ?_⟩⟩
  · rw [run_bytes_of_string W 9 22 5 (strB m) Tryd.underlying9 Tryd.underlying22 Tryd.underlying5, strB_size]
  · intro k hk
    have hs : (strB m).data.size = m.length := strB_size m
    refine ⟨W.heap.size, 0, rfl, ?_, getD_lt (by decide) hm k⟩
    rw [Nat.zero_add]
    rw [cell_new3, bytesRow_at _ _ _ (by omega), strB_at m hm k (by omega)]
end Go.Proofs.YtjeipkoomefekaaDoor
