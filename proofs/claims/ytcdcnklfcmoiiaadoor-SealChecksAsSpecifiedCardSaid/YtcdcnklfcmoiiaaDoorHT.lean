/- Ported from another seat (wip/hash/T.src, by wip/port.py): contracts that this chapter calls. -/
import Derived.Test.YtcdcnklfcmoiiaaDoorHQ
import Derived.Deep.RegionLaw
namespace Go.Proofs.YtcdcnklfcmoiiaaDoor
set_option linter.unusedVariables false
set_option linter.unusedSimpArgs false
namespace Hs
open Go.RowKit
attribute [local go_sem] zeroSt
attribute [local simp] zeroSt_ne
def IntsA (W : World) (a : Option Addr) (l : List Int) : Prop := ∀ k, k < l.length → ∃ b off, a = some ⟨b, off, none⟩ ∧ W.cell? ⟨b, off + k, none⟩ = some (.int .i64 (l.getD k 0))
set_option maxRecDepth 100000 in
theorem IntsA.mono {W W' : World} {a : Option Addr} {l : List Int} (h : IntsA W a l) (hb : Below W.heap.size W W') : IntsA W' a l := by
  intro k hk
  obtain ⟨b, off, e, h1⟩ := h k hk
  exact ⟨b, off, e, keep h1 hb⟩
set_option maxRecDepth 100000 in
theorem Blk.bytes {W : World} {g : Nat} {t : TypeId} {l : List Nat} (h : Blk W g t (bvs l)) (hl : ∀ x ∈ l, x < 256) : BytesA W (some ⟨g, 0, none⟩) l := fun k hk =>
  ⟨g, 0, rfl, by rw [Nat.zero_add, h.cell k]; exact bvs_at l k hk, getD_lt (by decide) hl k⟩
set_option maxRecDepth 100000 in
theorem array_at (g : Nat) (W : World) : (Instr.arrayAt 56 (.slice (some ⟨g, 0, none⟩) 16 32)).run Tryd.prog W = .ok (.pointer (some ⟨g, 0, none⟩)) W := by
  have hu := Tryd.underlying56
  simp [Instr.arrayAt, run_underlying hu]
end Hs
end Go.Proofs.YtcdcnklfcmoiiaaDoor
