/- Checks of 40 bits: polynomials over two elements, without the program. -/
import Derived.Laws.BitsAllLaws
namespace Go.Proofs.YtjeipkoomefekaaDoor
set_option linter.unusedVariables false
set_option linter.unusedSimpArgs false
def pol : Nat := 75628553
/-- The register is shifted by one bit, and reduced. -/
def dbl (r : Nat) : Nat := (2 * r % 1099511627776) ^^^ (if r.testBit 39 then pol else 0)
theorem pol_lt : pol < 2 ^ 40 := by decide
theorem bits_lt : (1099511627776 : Nat) = 2 ^ 40 := by decide
theorem dbl_lt (r : Nat) : dbl r < 1099511627776 := by
  unfold dbl
  refine Nat.xor_lt_two_pow (n := 40) (Nat.mod_lt _ (by decide)) ?_
  split
  · exact pol_lt
  · decide
theorem two_xor (a b : Nat) : 2 * (a ^^^ b) = (2 * a) ^^^ (2 * b) := by
  have := Nat.shiftLeft_xor_distrib (a := a) (b := b) (i := 1)
  simpa [Nat.shiftLeft_eq, Nat.mul_comm] using this
theorem xor4 (a b c d : Nat) : (a ^^^ b) ^^^ (c ^^^ d) = (a ^^^ c) ^^^ (b ^^^ d) := by
  rw [Nat.xor_assoc, Nat.xor_assoc]
  congr 1
  rw [← Nat.xor_assoc, Nat.xor_comm b c, Nat.xor_assoc]
theorem dbl_xor (a b : Nat) : dbl (a ^^^ b) = dbl a ^^^ dbl b := by
  unfold dbl
  rw [two_xor, bits_lt, Nat.xor_mod_two_pow, Nat.testBit_xor, xor4]
  congr 1
  cases a.testBit 39 <;> cases b.testBit 39 <;> simp
theorem dbl_zero : dbl 0 = 0 := by decide
theorem dbl_lo {r : Nat} (h : r < 549755813888) : dbl r = 2 * r := by
  unfold dbl
  rw [Nat.testBit_lt_two_pow (by exact h : r < 2 ^ 39), if_neg (by simp), Nat.xor_zero, Nat.mod_eq_of_lt (by omega)]
def dblN : Nat → Nat → Nat
  | 0, r => r
  | n + 1, r => dblN n (dbl r)
theorem dblN_succ : ∀ (n r : Nat), dblN (n + 1) r = dbl (dblN n r)
  | 0, r => rfl
  | n + 1, r => by rw [dblN, dblN_succ n (dbl r), dblN]
theorem dblN_add : ∀ (m n r : Nat), dblN (m + n) r = dblN m (dblN n r)
  | 0, n, r => by simp [dblN]
  | m + 1, n, r => by rw [Nat.succ_add, dblN_succ, dblN_add m n r, dblN_succ]
theorem dblN_xor : ∀ (n a b : Nat), dblN n (a ^^^ b) = dblN n a ^^^ dblN n b
  | 0, a, b => rfl
  | n + 1, a, b => by rw [dblN, dblN, dblN, dbl_xor, dblN_xor n]
theorem dblN_zero (n : Nat) : dblN n 0 = 0 := by
  induction n with
  | zero => rfl
  | succ n ih => rw [dblN, dbl_zero, ih]
theorem dblN_lt (n r : Nat) (h : r < 1099511627776) : dblN n r < 1099511627776 := by
  cases n with
  | zero => exact h
  | succ n => rw [dblN_succ]; exact dbl_lt _
theorem dblN_comm (n r : Nat) : dblN n (dbl r) = dbl (dblN n r) := by rw [← dblN_succ]; rfl
theorem xor_join (i q y : Nat) (hy : y < 2 ^ i) : (2 ^ i * q) ^^^ y = 2 ^ i * q + y := by
  apply Nat.eq_of_testBit_eq
  intro j
  rw [Nat.testBit_xor, Nat.testBit_two_pow_mul_add _ hy, Nat.testBit_two_pow_mul]
  by_cases h : j < i
  · simp [h, show ¬ i ≤ j by omega]
  · have : y.testBit j = false := Nat.testBit_lt_two_pow (Nat.lt_of_lt_of_le hy (Nat.pow_le_pow_right (by decide) (by omega)))
    simp [h, this, show i ≤ j by omega]
/-- Every number is twice its half, and its last bit. -/
theorem half_xor (a : Nat) : (2 * (a / 2)) ^^^ (a % 2) = a := by
  have := xor_join 1 (a / 2) (a % 2) (by omega)
  rw [Nat.pow_one] at this
  omega
theorem lin_eq (F G : Nat → Nat) (hF : ∀ a b, F (a ^^^ b) = F a ^^^ F b) (hG : ∀ a b, G (a ^^^ b) = G a ^^^ G b) (dF : ∀ a, F (dbl a) = dbl (F a)) (dG : ∀ a, G (dbl a) = dbl (G a)) (h1 : F 1 = G 1) : ∀ a, a < 1099511627776 → F a = G a := by
  have z : ∀ (K : Nat → Nat), (∀ a b, K (a ^^^ b) = K a ^^^ K b) → K 0 = 0 := fun K hK => by
    have := hK 0 0
    rw [Nat.xor_self] at this
    rw [this, Nat.xor_self]
  intro a
  induction a using Nat.strongRecOn with
  | _ a ih =>
    intro ha
    by_cases h0 : a = 0
    · rw [h0, z F hF, z G hG]
    · have e := half_xor a
      have hl : F (a % 2) = G (a % 2) := by
        rcases (by omega : a % 2 = 0 ∨ a % 2 = 1) with k | k
        · rw [k, z F hF, z G hG]
        · rw [k, h1]
      have hh := ih (a / 2) (by omega) (by omega)
      rw [← e, hF, hG, hl, ← dbl_lo (by omega), dF, dG, hh]
/-- The product of two polynomials. -/
def mul (a b : Nat) : Nat := if b = 0 then 0 else (if b % 2 = 1 then a else 0) ^^^ mul (dbl a) (b / 2)
termination_by b
decreasing_by omega
theorem mul_none (a : Nat) : mul a 0 = 0 := by rw [mul, if_pos rfl]
theorem mul_step (a b : Nat) : mul a b = (if b % 2 = 1 then a else 0) ^^^ mul (dbl a) (b / 2) := by
  by_cases h : b = 0
  · subst h; simp [mul_none]
  · rw [mul, if_neg h]
theorem mul_zero_left : ∀ b, mul 0 b = 0 := by
  intro b
  induction b using Nat.strongRecOn with
  | _ b ih =>
    by_cases h : b = 0
    · rw [h, mul_none]
    · rw [mul_step, dbl_zero, ih (b / 2) (by omega)]
      split <;> rfl
theorem mul_xor_left : ∀ (b a c : Nat), mul (a ^^^ c) b = mul a b ^^^ mul c b := by
  intro b
  induction b using Nat.strongRecOn with
  | _ b ih =>
    intro a c
    by_cases h : b = 0
    · rw [h, mul_none, mul_none, mul_none]; rfl
    · rw [mul_step, mul_step a, mul_step c, dbl_xor, ih (b / 2) (by omega), ← xor4]
      congr 1
      split <;> simp
theorem mul_dbl_left : ∀ (b a : Nat), mul (dbl a) b = dbl (mul a b) := by
  intro b
  induction b using Nat.strongRecOn with
  | _ b ih =>
    intro a
    by_cases h : b = 0
    · rw [h, mul_none, mul_none, dbl_zero]
    · rw [mul_step, mul_step a, dbl_xor, ih (b / 2) (by omega)]
      congr 1
      split
      · rfl
      · exact dbl_zero.symm
theorem mul_xor_right : ∀ (b c a : Nat), mul a (b ^^^ c) = mul a b ^^^ mul a c := by
  intro b
  induction b using Nat.strongRecOn with
  | _ b ih =>
    intro c a
    by_cases h : b = 0
    · rw [h, Nat.zero_xor, mul_none, Nat.zero_xor]
    · rw [mul_step, mul_step a b, mul_step a c, Nat.xor_div_two, ih (b / 2) (by omega), ← xor4]
      congr 1
      have e : (b ^^^ c) % 2 = (b % 2) ^^^ (c % 2) := by
        have := Nat.xor_mod_two_pow (a := b) (b := c) (n := 1)
        simpa using this
      rw [e]
      rcases (by omega : b % 2 = 0 ∨ b % 2 = 1) with k | k <;> rcases (by omega : c % 2 = 0 ∨ c % 2 = 1) with k' | k' <;> rw [k, k'] <;> simp
theorem mul_twice (a b : Nat) : mul a (2 * b) = dbl (mul a b) := by
  by_cases h : b = 0
  · subst h; simp [mul_none, dbl_zero]
  · rw [mul_step, if_neg (by omega), Nat.zero_xor, show 2 * b / 2 = b by omega, mul_dbl_left]
theorem mul_one (a : Nat) : mul a 1 = a := by
  rw [mul_step, if_pos (by omega), show 1 / 2 = 0 by omega, mul_none, Nat.xor_zero]
theorem mul_pow (a : Nat) : ∀ n, mul a (2 ^ n) = dblN n a
  | 0 => mul_one a
  | n + 1 => by rw [Nat.pow_succ, Nat.mul_comm, mul_twice, mul_pow a n, dblN_succ]
theorem mul_pol (a : Nat) (h : a < 1099511627776) : mul a pol = dblN 40 a :=
  lin_eq (fun a => mul a pol) (dblN 40) (fun a b => mul_xor_left pol a b) (dblN_xor 40) (fun a => mul_dbl_left pol a) (dblN_comm 40) (by decide +kernel) a h
theorem mul_dbl_right (a b : Nat) (ha : a < 1099511627776) (hb : b < 1099511627776) : mul a (dbl b) = dbl (mul a b) := by
  unfold dbl
  rw [mul_xor_right]
  have e : 2 * b = (2 * b % 1099511627776) ^^^ (if b.testBit 39 then 1099511627776 else 0) := by
    by_cases h : b < 549755813888
    · rw [Nat.testBit_lt_two_pow (by exact h : b < 2 ^ 39), if_neg (by simp), Nat.xor_zero, Nat.mod_eq_of_lt (by omega)]
    · have t : b.testBit 39 = true := by
        rw [Nat.testBit_eq_decide_div_mod_eq]
        simp
        omega
      have j := xor_join 40 1 (2 * b % 1099511627776) (by have := Nat.mod_lt (2 * b) (by decide : 0 < 1099511627776); exact this)
      rw [t, if_pos rfl, Nat.xor_comm]
      have e2 : (2 : Nat) ^ 40 * 1 = 1099511627776 := by decide
      rw [e2] at j
      omega
  have k := mul_twice a b
  rw [e, mul_xor_right] at k
  have key : mul a (if b.testBit 39 then pol else 0) = mul a (if b.testBit 39 then 1099511627776 else 0) := by
    split
    · have := mul_pow a 40
      rw [← bits_lt] at this
      rw [mul_pol a ha, this]
    · rfl
  rw [key, k]
  rfl
theorem mul_shift (a : Nat) (ha : a < 1099511627776) : ∀ n, mul a (dblN n 1) = dblN n a
  | 0 => mul_one a
  | n + 1 => by rw [dblN_succ, mul_dbl_right a _ ha (dblN_lt n 1 (by decide)), mul_shift a ha n, dblN_succ]
end Go.Proofs.YtjeipkoomefekaaDoor
