/- Checks of 40 bits: nibbles, joins, sums and bursts, without the program. -/
import Derived.Test.YtjeipkoomefekaaDoorM
namespace Go.Proofs.YtjeipkoomefekaaDoor
set_option linter.unusedVariables false
set_option linter.unusedSimpArgs false
def step (r b : Nat) : Nat := dbl r ^^^ (if b = 1 then pol else 0)
theorem step_lt (r b : Nat) : step r b < 1099511627776 := by
  unfold step
  refine Nat.xor_lt_two_pow (n := 40) (dbl_lt r) ?_
  split
  · exact pol_lt
  · decide
theorem step_zero (r : Nat) : step r 0 = dbl r := by unfold step; simp
theorem step_xor (r s b c : Nat) (hb : b ≤ 1) (hc : c ≤ 1) : step (r ^^^ s) (b ^^^ c) = step r b ^^^ step s c := by
  unfold step
  rw [dbl_xor, xor4]
  congr 1
  rcases (by omega : b = 0 ∨ b = 1) with h | h <;> rcases (by omega : c = 0 ∨ c = 1) with k | k <;> rw [h, k] <;> simp
/-- The register after k bits of a byte, the highest first. -/
def stK (r c : Nat) : Nat → Nat
  | 0 => r
  | k + 1 => step (stK r c k) (c / 2 ^ (7 - k) % 2)
theorem stK_lt (r c k : Nat) (h : r < 1099511627776) : stK r c k < 1099511627776 := by
  cases k with
  | zero => exact h
  | succ k => exact step_lt _ _
theorem bit_xor (a b k : Nat) : (a ^^^ b) / 2 ^ k % 2 = (a / 2 ^ k % 2) ^^^ (b / 2 ^ k % 2) := by
  rw [← Nat.shiftRight_eq_div_pow, ← Nat.shiftRight_eq_div_pow, ← Nat.shiftRight_eq_div_pow, Nat.shiftRight_xor_distrib]
  have := Nat.xor_mod_two_pow (a := a >>> k) (b := b >>> k) (n := 1)
  simpa using this
theorem stK_xor (r s b c : Nat) : ∀ k, stK (r ^^^ s) (b ^^^ c) k = stK r b k ^^^ stK s c k
  | 0 => rfl
  | k + 1 => by
    rw [stK, stK, stK, stK_xor r s b c k, bit_xor, step_xor _ _ _ _ (by omega) (by omega)]
theorem stK_none (r : Nat) : ∀ k, stK r 0 k = dblN k r
  | 0 => rfl
  | k + 1 => by rw [stK, stK_none r k, Nat.zero_div, Nat.zero_mod, step_zero, dblN_succ]
/-- The register after bytes. -/
def run (r : Nat) (l : List Nat) : Nat := l.foldl (fun r c => stK r c 8) r
theorem run_nil (r : Nat) : run r [] = r := rfl
theorem run_cons (r c : Nat) (l : List Nat) : run r (c :: l) = run (stK r c 8) l := rfl
theorem run_lt : ∀ (l : List Nat) (r : Nat), r < 1099511627776 → run r l < 1099511627776
  | [], r, h => h
  | c :: l, r, h => run_lt l _ (stK_lt r c 8 h)
theorem run_take (r : Nat) (l : List Nat) (k : Nat) (h : k < l.length) : run r (l.take (k + 1)) = stK (run r (l.take k)) (l.getD k 0) 8 := by
  unfold run
  rw [List.take_add_one, List.foldl_append, List.getElem?_eq_getElem h, List.getD_eq_getElem?_getD, List.getElem?_eq_getElem h]
  rfl
theorem run_append (r : Nat) (a b : List Nat) : run r (a ++ b) = run (run r a) b := by
  unfold run; rw [List.foldl_append]
/-- The check of bytes. -/
def crc (l : List Nat) : Nat := run 1099511627775 l ^^^ 1099511627775
theorem crc_lt (l : List Nat) : crc l < 1099511627776 := Nat.xor_lt_two_pow (n := 40) (run_lt l _ (by decide)) (by decide)
theorem run_split : ∀ (l : List Nat) (r s : Nat), run (r ^^^ s) l = dblN (8 * l.length) r ^^^ run s l
  | [], r, s => rfl
  | c :: l, r, s => by
    rw [run_cons, run_cons, show stK (r ^^^ s) c 8 = stK (r ^^^ s) (0 ^^^ c) 8 by rw [Nat.zero_xor], stK_xor, run_split l, stK_none, ← dblN_add]
    congr 2
/-- Join, P2.3. -/
def join (a b n : Nat) : Nat := dblN (8 * n) (a % 1099511627776) ^^^ (b % 1099511627776)
theorem join_lt (a b n : Nat) : join a b n < 1099511627776 := Nat.xor_lt_two_pow (n := 40) (dblN_lt _ _ (Nat.mod_lt _ (by decide))) (Nat.mod_lt _ (by decide))
theorem crc_join (a b : List Nat) : crc (a ++ b) = join (crc a) (crc b) b.length := by
  unfold join
  rw [Nat.mod_eq_of_lt (crc_lt a), Nat.mod_eq_of_lt (crc_lt b)]
  unfold crc
  rw [run_append]
  have h1 := run_split b (run 1099511627775 a) 0
  have h2 := run_split b 1099511627775 0
  rw [Nat.xor_zero] at h1 h2
  rw [h1, h2, dblN_xor, ← Nat.xor_assoc]
  congr 1
  rw [Nat.xor_assoc, ← Nat.xor_assoc (dblN (8 * b.length) 1099511627775), Nat.xor_self, Nat.zero_xor]
theorem crc_three (a b c : List Nat) : join (join (crc a) (crc b) b.length) (crc c) c.length = crc (a ++ b ++ c) := by
  rw [← crc_join, ← crc_join]
theorem crc_three' (a b c : List Nat) : join (crc a) (join (crc b) (crc c) c.length) (b.length + c.length) = crc (a ++ b ++ c) := by
  rw [← crc_join, List.append_assoc, crc_join a, List.length_append]
theorem join_shift (a n m : Nat) : join (join a 0 n) 0 m = join a 0 (n + m) := by
  unfold join
  rw [Nat.zero_mod, Nat.xor_zero, Nat.xor_zero, Nat.xor_zero, Nat.mod_eq_of_lt (dblN_lt _ _ (Nat.mod_lt _ (by decide))), ← dblN_add]
  congr 1; omega
theorem join_with (a b n : Nat) : join a b n = join a 0 n ^^^ (b % 1099511627776) := by
  unfold join
  rw [Nat.zero_mod, Nat.xor_zero]
theorem join_none (b n : Nat) : join 0 b n = b % 1099511627776 := by
  unfold join
  rw [Nat.zero_mod, dblN_zero, Nat.zero_xor]
/-- Bytes of lists, combined one by one. -/
def xorL (a b : List Nat) : List Nat := List.zipWith (· ^^^ ·) a b
theorem run_xor : ∀ (a b : List Nat) (r s : Nat), a.length = b.length → run (r ^^^ s) (xorL a b) = run r a ^^^ run s b
  | [], [], r, s, _ => rfl
  | x :: a, y :: b, r, s, h => by
    show run (stK (r ^^^ s) (x ^^^ y) 8) (xorL a b) = _
    rw [stK_xor, run_xor a b _ _ (by simpa using h)]
    rfl
  | [], y :: b, r, s, h => by simp at h
  | x :: a, [], r, s, h => by simp at h
theorem xorL_len (a b : List Nat) (h : a.length = b.length) : (xorL a b).length = a.length := by unfold xorL; simp [h]
theorem crc_linear (a y z : List Nat) (h1 : y.length = a.length) (h2 : z.length = a.length) : crc (xorL (xorL a y) z) = (crc a ^^^ crc y) ^^^ crc z := by
  unfold crc
  have e1 := run_xor (xorL a y) z (1099511627775 ^^^ 1099511627775) 1099511627775 (by rw [xorL_len a y h1.symm]; exact h2.symm)
  have e2 := run_xor a y 1099511627775 1099511627775 h1.symm
  rw [Nat.xor_self, Nat.zero_xor] at e1
  rw [Nat.xor_self] at e2
  rw [e1, e2, xor4 (run 1099511627775 a), Nat.xor_self, Nat.xor_zero, Nat.xor_assoc]
/-- Four bits at once. -/
def tab (n : Nat) : Nat := dblN 4 (2 ^ 36 * n)
theorem tabs : (List.range 16).map tab = [0x0000000000, 0x0004820009, 0x0009040012, 0x000d86001b, 0x0012080024, 0x00168a002d, 0x001b0c0036, 0x001f8e003f, 0x0024100048, 0x0020920041, 0x002d14005a, 0x0029960053, 0x003618006c, 0x00329a0065, 0x003f1c007e, 0x003b9e0077] := by decide +kernel
theorem step_in (r b : Nat) (hr : r < 1099511627776) (hb : b ≤ 1) : step r b = dbl (r ^^^ (2 ^ 39 * b)) := by
  unfold step
  rw [dbl_xor]
  congr 1
  rcases (by omega : b = 0 ∨ b = 1) with h | h <;> rw [h]
  · decide
  · decide +kernel
theorem dblN_small : ∀ (k r : Nat), r < 2 ^ (40 - k) → k ≤ 40 → dblN k r = 2 ^ k * r
  | 0, r, _, _ => by simp [dblN]
  | k + 1, r, h, hk => by
    have h1 : r < 2 ^ (40 - k) := Nat.lt_of_lt_of_le h (Nat.pow_le_pow_right (by decide) (by omega))
    rw [dblN_succ, dblN_small k r h1 (by omega), dbl_lo, Nat.pow_succ]
    · rw [Nat.mul_comm (2 ^ k) 2, Nat.mul_assoc]
    · have : 2 ^ k * r < 2 ^ k * 2 ^ (40 - (k + 1)) := Nat.mul_lt_mul_of_pos_left h (Nat.pow_pos (by decide))
      rw [← Nat.pow_add, show k + (40 - (k + 1)) = 39 by omega] at this
      exact this
theorem nib_low (r : Nat) (hr : r < 1099511627776) : r = (2 ^ 36 * (r / 68719476736)) ^^^ (r % 68719476736) := by
  have := xor_join 36 (r / 68719476736) (r % 68719476736) (Nat.mod_lt _ (by decide))
  rw [this]
  have e : (2 : Nat) ^ 36 = 68719476736 := by decide
  rw [e]
  omega
theorem dbl4 (r : Nat) (hr : r < 1099511627776) : dblN 4 r = (16 * r % 1099511627776) ^^^ tab (r / 68719476736) := by
  have h := nib_low r hr
  have e2 : dblN 4 (r % 68719476736) = 16 * r % 1099511627776 := by
    rw [dblN_small 4 _ (Nat.mod_lt _ (by decide)) (by decide)]
    omega
  calc dblN 4 r = dblN 4 ((2 ^ 36 * (r / 68719476736)) ^^^ (r % 68719476736)) := by rw [← h]
    _ = tab (r / 68719476736) ^^^ (16 * r % 1099511627776) := by rw [dblN_xor, e2]; rfl
    _ = _ := Nat.xor_comm _ _
/-- The register after a nibble. -/
def nib (r n : Nat) : Nat := (16 * r % 1099511627776) ^^^ tab ((r / 68719476736) ^^^ n)
theorem nib_dbl (r n : Nat) (hr : r < 1099511627776) (hn : n < 16) : nib r n = dblN 4 (r ^^^ (2 ^ 36 * n)) := by
  have hlt : r ^^^ (2 ^ 36 * n) < 1099511627776 := Nat.xor_lt_two_pow (n := 40) hr (by rw [show (2 : Nat) ^ 36 = 68719476736 by decide]; omega)
  rw [dblN_xor, dbl4 r hr]
  unfold nib
  have ht : ∀ a b, tab (a ^^^ b) = tab a ^^^ tab b := fun a b => by
    unfold tab
    have := Nat.shiftLeft_xor_distrib (a := a) (b := b) (i := 36)
    rw [Nat.shiftLeft_eq, Nat.shiftLeft_eq, Nat.shiftLeft_eq, Nat.mul_comm, Nat.mul_comm a, Nat.mul_comm b] at this
    rw [this, dblN_xor]
  rw [ht, ← Nat.xor_assoc]
  rfl
theorem step4 (r c : Nat) (hr : r < 1099511627776) (b3 b2 b1 b0 : Nat) (h3 : b3 ≤ 1) (h2 : b2 ≤ 1) (h1 : b1 ≤ 1) (h0 : b0 ≤ 1) :
    step (step (step (step r b3) b2) b1) b0 = dblN 4 (r ^^^ (2 ^ 36 * (8 * b3 + 4 * b2 + 2 * b1 + b0))) := by
  have e : ∀ r b, b ≤ 1 → step r b = dbl r ^^^ step 0 b := fun r b hb => by
    have := step_xor r 0 0 b (by omega) hb
    rw [Nat.xor_zero, Nat.zero_xor, step_zero] at this
    exact this
  have f : ∀ a b c d, a ≤ 1 → b ≤ 1 → c ≤ 1 → d ≤ 1 → dbl (dbl (dbl (step 0 a) ^^^ step 0 b) ^^^ step 0 c) ^^^ step 0 d = dblN 4 (2 ^ 36 * (8 * a + 4 * b + 2 * c + d)) := by
    intro a b c d ha hb hc hd
    rcases (by omega : a = 0 ∨ a = 1) with h | h <;> rcases (by omega : b = 0 ∨ b = 1) with h' | h' <;> rcases (by omega : c = 0 ∨ c = 1) with h'' | h'' <;> rcases (by omega : d = 0 ∨ d = 1) with h''' | h''' <;> rw [h, h', h'', h'''] <;> decide +kernel
  rw [dblN_xor, ← f b3 b2 b1 b0 h3 h2 h1 h0, e _ b0 h0, e _ b1 h1, e _ b2 h2, e r b3 h3]
  simp only [dbl_xor, dblN, ← Nat.xor_assoc]
theorem nib_two (r c : Nat) (hr : r < 1099511627776) (hc : c < 256) : nib (nib r (c / 16)) (c % 16) = stK r c 8 := by
  have e1 : stK r c 4 = nib r (c / 16) := by
    rw [nib_dbl r _ hr (by omega)]
    show step (step (step (step r (c / 2 ^ 7 % 2)) (c / 2 ^ 6 % 2)) (c / 2 ^ 5 % 2)) (c / 2 ^ 4 % 2) = _
    rw [step4 r c hr _ _ _ _ (by omega) (by omega) (by omega) (by omega)]
    congr 3
    omega
  have hlt : nib r (c / 16) < 1099511627776 := by rw [← e1]; exact stK_lt _ _ _ hr
  rw [nib_dbl _ _ hlt (by omega), ← e1]
  show _ = step (step (step (step (stK r c 4) (c / 2 ^ 3 % 2)) (c / 2 ^ 2 % 2)) (c / 2 ^ 1 % 2)) (c / 2 ^ 0 % 2)
  rw [step4 _ c (stK_lt _ _ _ hr) _ _ _ _ (by omega) (by omega) (by omega) (by omega)]
  congr 3
  omega
theorem nib_lt (r n : Nat) (hr : r < 1099511627776) (hn : n < 16) : nib r n < 1099511627776 := by
  rw [nib_dbl r n hr hn]
  refine dblN_lt _ _ (Nat.xor_lt_two_pow (n := 40) hr ?_)
  have : (2 : Nat) ^ 36 = 68719476736 := by decide
  rw [this]; omega
end Go.Proofs.YtjeipkoomefekaaDoor
