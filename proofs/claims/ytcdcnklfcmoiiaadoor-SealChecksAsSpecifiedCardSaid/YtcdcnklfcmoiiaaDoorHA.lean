/- Ported from another seat (wip/hash/A.src, by wip/port.py): contracts that this chapter calls. -/
import Derived.Test.YtcdcnklfcmoiiaaDoorHM2
import Derived.Test.YtcdcnklfcmoiiaaDoorHN
import Derived.WalkKit
import Derived.WalkLawsBesides
import Derived.WalkSpells
import Derived.StillTactics
import Derived.Laws.Pointers
import Derived.Lib.MinMax
import Derived.RowKit3
import Derived.Outline
import Derived.Lib.Hide
import Derived.Lib.QuietBelow
import Derived.OpenShut
import Derived.Deep.QuietTactic
import Derived.BigQuiet
namespace Go.Proofs.YtcdcnklfcmoiiaaDoor
set_option linter.unusedVariables false
set_option linter.unusedSimpArgs false
namespace Hs
open Go.RowKit
set_option maxRecDepth 100000 in
theorem below_dn {B n : Nat} {a w : World} (h : Below B a w) : Below B a (w.drewN n) := ⟨h.os, h.tape, h.output, h.size, h.block⟩
set_option maxRecDepth 100000 in
theorem bt {w a b : World} (h : Below w.heap.size w a) (k : Below a.heap.size a b) : Below w.heap.size w b := h.trans (k.mono h.size)
set_option maxRecDepth 100000 in
theorem ret_int {k : IntKind} {a b : Int} (h : a = b) : Ending.returned (.int k a) = .returned (.int k b) := by rw [h]
set_option maxRecDepth 100000 in
theorem keep {W W' : World} {b o : Nat} {v : Value} (h : W.cell? ⟨b, o, none⟩ = some v) (hb : Below W.heap.size W W') : W'.cell? ⟨b, o, none⟩ = some v := by
  rw [hb.cell (p := ⟨b, o, none⟩) (block_lt_of_cell h)]; exact h
/-- A byte in memory. -/
abbrev bv (x : Nat) : Value := .int .u8 (x : Int)
def BytesA (W : World) (a : Option Addr) (l : List Nat) : Prop := ∀ k, k < l.length → ∃ b off, a = some ⟨b, off, none⟩ ∧ W.cell? ⟨b, off + k, none⟩ = some (bv (l.getD k 0)) ∧ l.getD k 0 < 256
set_option maxRecDepth 100000 in
theorem BytesA.mono {W W' : World} {a : Option Addr} {l : List Nat} (h : BytesA W a l) (hb : Below W.heap.size W W') : BytesA W' a l := by
  intro k hk
  obtain ⟨b, off, e, h1, h2⟩ := h k hk
  exact ⟨b, off, e, keep h1 hb, h2⟩
end Hs
end Go.Proofs.YtcdcnklfcmoiiaaDoor
