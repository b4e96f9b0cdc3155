/- Checks of 40 bits: bursts, without the program. -/
import Derived.Test.YtjeipkoomefekaaDoorM2
namespace Go.Proofs.YtjeipkoomefekaaDoor
set_option linter.unusedVariables false
set_option linter.unusedSimpArgs false
theorem dbl_none {r : Nat} (hr : r < 1099511627776) (h : dbl r = 0) : r = 0 := by
  by_cases k : r < 549755813888
  · rw [dbl_lo k] at h; omega
  · unfold dbl at h
    have t : r.testBit 39 = true := by
      rw [Nat.testBit_eq_decide_div_mod_eq]
      simp
      omega
    rw [t, if_pos rfl] at h
    have e : 2 * r % 1099511627776 = pol := by
      have := congrArg (· ^^^ pol) h
      simpa [Nat.xor_assoc] using this
    unfold pol at e
    omega
theorem dblN_none : ∀ (n r : Nat), r < 1099511627776 → dblN n r = 0 → r = 0
  | 0, r, _, h => h
  | n + 1, r, hr, h => dbl_none hr (dblN_none n _ (dbl_lt r) h)
theorem stK_one (j : Nat) (hj : j < 8) : stK 0 (2 ^ (7 - j)) 8 = dblN (7 - j) pol := by
  rcases (by omega : j = 0 ∨ j = 1 ∨ j = 2 ∨ j = 3 ∨ j = 4 ∨ j = 5 ∨ j = 6 ∨ j = 7) with h | h | h | h | h | h | h | h <;> rw [h] <;> decide +kernel
theorem run_flip (l : List Nat) (i j r : Nat) (hi : i < l.length) (hj : j < 8) :
    run r (l.set i (l.getD i 0 ^^^ 2 ^ (7 - j))) = run r l ^^^ dblN (8 * (l.length - i) - 1 - j) pol := by
  have e1 : l.set i (l.getD i 0 ^^^ 2 ^ (7 - j)) = l.take i ++ (l.getD i 0 ^^^ 2 ^ (7 - j)) :: l.drop (i + 1) := by
    rw [List.set_eq_take_append_cons_drop, if_pos hi]
  have e2 : l = l.take i ++ l.getD i 0 :: l.drop (i + 1) := by
    rw [List.getD_eq_getElem?_getD, List.getElem?_eq_getElem hi, Option.getD_some, List.getElem_cons_drop, List.take_append_drop]
  have e3 : stK (run r (l.take i)) (l.getD i 0 ^^^ 2 ^ (7 - j)) 8 = dblN (7 - j) pol ^^^ stK (run r (l.take i)) (l.getD i 0) 8 := by
    have := stK_xor (run r (l.take i)) 0 (l.getD i 0) (2 ^ (7 - j)) 8
    rw [Nat.xor_zero] at this
    rw [this, stK_one j hj, Nat.xor_comm]
  rw [e1, run_append, run_cons, e3, run_split, ← dblN_add, Nat.xor_comm]
  have e4 : run r l = run (stK (run r (l.take i)) (l.getD i 0) 8) (l.drop (i + 1)) := by
    conv => lhs; rw [e2]
    rw [run_append, run_cons]
  rw [e4]
  congr 2
  rw [List.length_drop]
  omega
/-- The bits of a pattern that were taken, the first one the highest. -/
def pat (p : Nat) : Nat → Nat
  | 0 => 0
  | k + 1 => 2 * pat p k + p / 2 ^ k % 2
theorem pat_lt (p : Nat) : ∀ k, pat p k < 2 ^ k
  | 0 => by simp [pat]
  | k + 1 => by rw [pat, Nat.pow_succ]; have := pat_lt p k; omega
theorem pat_lt40 (p k : Nat) (hk : k ≤ 40) : pat p k < 1099511627776 := Nat.lt_of_lt_of_le (pat_lt p k) (by rw [bits_lt]; exact Nat.pow_le_pow_right (by decide) hk)
theorem two_bit (a : Nat) (b : Nat) (hb : b ≤ 1) : (2 * a) ^^^ b = 2 * a + b := by
  have := xor_join 1 a b (by omega)
  rwa [Nat.pow_one] at this
theorem pol_is : dblN 40 1 = pol := by decide +kernel
/-- The register after the burst's first k + 1 bits, from that after k. -/
theorem burst_step (p k m : Nat) (hk : k < 40) : dblN (m + 1) (dblN 40 (pat p k)) ^^^ (if p / 2 ^ k % 2 = 1 then dblN m pol else 0) = dblN m (dblN 40 (pat p (k + 1))) := by
  have h1 : pat p k < 549755813888 := Nat.lt_of_lt_of_le (pat_lt p k) (by
    have : (549755813888 : Nat) = 2 ^ 39 := by decide
    rw [this]; exact Nat.pow_le_pow_right (by decide) (by omega))
  rw [pat, ← two_bit _ _ (by omega), dblN_xor, dblN_xor, ← dbl_lo h1, dblN_comm]
  show dblN m (dbl _) ^^^ _ = _
  congr 1
  rcases (by omega : p / 2 ^ k % 2 = 0 ∨ p / 2 ^ k % 2 = 1) with h | h <;> rw [h]
  · rw [if_neg (by decide), dblN_zero, dblN_zero]
  · rw [if_pos rfl, pol_is]
theorem burst_sees (p K m : Nat) (hK : K ≤ 40) : dblN m (dblN 40 (pat p K)) = 0 ↔ pat p K = 0 := by
  constructor
  · intro h
    exact dblN_none 40 _ (pat_lt40 p K hK) (dblN_none m _ (dblN_lt 40 _ (pat_lt40 p K hK)) h)
  · intro h
    rw [h, dblN_zero, dblN_zero]
theorem pat_none (p : Nat) : ∀ k, (pat p k = 0 ↔ ∀ j, j < k → p / 2 ^ j % 2 = 0)
  | 0 => by simp [pat]
  | k + 1 => by
    rw [pat]
    constructor
    · intro h j hj
      by_cases e : j = k
      · subst e; omega
      · exact (pat_none p k).1 (by omega) j (by omega)
    · intro h
      have := (pat_none p k).2 fun j hj => h j (by omega)
      have := h k (by omega)
      omega
end Go.Proofs.YtjeipkoomefekaaDoor
