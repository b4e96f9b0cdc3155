/- Ported from another seat (wip/hash/M2.src, by wip/port.py): contracts that this chapter calls. -/
import Derived.Test.YtcdcnklfcmoiiaaDoorHM
namespace Go.Proofs.YtcdcnklfcmoiiaaDoor
set_option linter.unusedVariables false
set_option linter.unusedSimpArgs false
namespace Hs
def step (r b : Nat) : Nat := dbl r ^^^ (if b = 1 then pol else 0)
/-- The register after k bits of a byte, the highest first. -/
def stK (r c : Nat) : Nat → Nat
  | 0 => r
  | k + 1 => step (stK r c k) (c / 2 ^ (7 - k) % 2)
/-- The register after bytes. -/
def run (r : Nat) (l : List Nat) : Nat := l.foldl (fun r c => stK r c 8) r
/-- Four bits at once. -/
def tab (n : Nat) : Nat := dblN 4 (2 ^ 36 * n)
end Hs
end Go.Proofs.YtcdcnklfcmoiiaaDoor
