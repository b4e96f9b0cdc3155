/- Ported from another seat (wip/hash/M.src, by wip/port.py): contracts that this chapter calls. -/
import Derived.Test.YtcdcnklfcmoiiaaDoorProg
import Derived.Test.YtcdcnklfcmoiiaaDoorChecked
import Derived.Laws.BitsAllLaws
namespace Go.Proofs.YtcdcnklfcmoiiaaDoor
set_option linter.unusedVariables false
set_option linter.unusedSimpArgs false
namespace Hs
def pol : Nat := 75628553
/-- The register is shifted by one bit, and reduced. -/
def dbl (r : Nat) : Nat := (2 * r % 1099511627776) ^^^ (if r.testBit 39 then pol else 0)
def dblN : Nat → Nat → Nat
  | 0, r => r
  | n + 1, r => dblN n (dbl r)
/-- The product of two polynomials. -/
def mul (a b : Nat) : Nat := if b = 0 then 0 else (if b % 2 = 1 then a else 0) ^^^ mul (dbl a) (b / 2)
termination_by b
decreasing_by omega
set_option maxRecDepth 100000 in
theorem mul_none (a : Nat) : mul a 0 = 0 := by rw [mul, if_pos rfl]
set_option maxRecDepth 100000 in
theorem mul_step (a b : Nat) : mul a b = (if b % 2 = 1 then a else 0) ^^^ mul (dbl a) (b / 2) := by
  by_cases h : b = 0
  · subst h; simp [mul_none]
  · rw [mul, if_neg h]
set_option maxRecDepth 100000 in
theorem mul_one (a : Nat) : mul a 1 = a := by
  rw [mul_step, if_pos (by omega), show 1 / 2 = 0 by omega, mul_none, Nat.xor_zero]
end Hs
end Go.Proofs.YtcdcnklfcmoiiaaDoor
