/- How long the encodings of integers are, and that none begins another one. No program. -/
import Derived.Test.YtlihndekeaefcaaV
namespace Go.Proofs.Ytlihndekeaefcaa
set_option linter.unusedVariables false
set_option linter.unusedSimpArgs false
theorem digs_half : ∀ (x y : Nat), x / 2 ≤ y / 2 → (digs x).length ≤ (digs y).length := by
  intro x
  induction x using Nat.strongRecOn with
  | _ x ih =>
    intro y h
    by_cases hx : x < 128
    · rw [digs_lo hx]; exact digs_ne y
    · rw [digs_hi (by omega), digs_hi (z := y) (by omega), List.length_cons, List.length_cons]
      have := ih (x / 128) (by omega) (y / 128) (by omega)
      omega
theorem digs_single (z : Nat) : (digs z).length = 1 ↔ z / 2 < 64 := by
  by_cases hz : z < 128
  · rw [digs_lo hz]; simp; omega
  · rw [digs_hi (by omega), List.length_cons]
    have := digs_ne (z / 128)
    omega
theorem fold_half (n : Int) : ((foldZ n / 2 : Nat) : Int) = max n (-1 - n) := by
  unfold foldZ
  split <;> omega
theorem enc_half {m n : Int} (h : max m (-1 - m) ≤ max n (-1 - n)) : (enc m).length ≤ (enc n).length := by
  rw [← fold_half, ← fold_half] at h
  exact digs_half _ _ (by omega)
theorem enc_one (n : Int) : (enc n).length = 1 ↔ max n (-1 - n) < 64 := by
  rw [← fold_half]
  have := digs_single (foldZ n)
  unfold enc
  omega
theorem enc_mirror (n : Int) : (enc (-1 - n)).length = (enc n).length :=
  Nat.le_antisymm (enc_half (by omega)) (enc_half (by omega))
theorem enc_prefix {m n : Int} (m1 : -9223372036854775808 ≤ m) (m2 : m ≤ 9223372036854775807) (n1 : -9223372036854775808 ≤ n) (n2 : n ≤ 9223372036854775807) (k : Nat) (hk : k = min (enc m).length (enc n).length) (h : (enc m).take k = (enc n).take k) : m = n := by
  have key : ∀ {m n : Int}, -9223372036854775808 ≤ m → m ≤ 9223372036854775807 → -9223372036854775808 ≤ n → n ≤ 9223372036854775807 → (enc m).length ≤ (enc n).length → (enc m).take (enc m).length = (enc n).take (enc m).length → m = n := by
    intro m n m1 m2 n1 n2 hl h
    rw [List.take_length] at h
    have e : enc n = enc m ++ (enc n).drop (enc m).length := by
      conv => lhs; rw [← List.take_append_drop (enc m).length (enc n), ← h]
    have g1 := getI_enc 11 10 m ((enc n).drop (enc m).length) m1 m2
    have g2 := getI_enc 11 10 n [] n1 n2
    rw [List.append_nil, e] at g2
    rw [g1] at g2
    exact (Prod.mk.inj g2).1
  by_cases hl : (enc m).length ≤ (enc n).length
  · rw [hk, Nat.min_eq_left hl] at h
    exact key m1 m2 n1 n2 hl h
  · rw [hk, Nat.min_eq_right (by omega)] at h
    exact (key n1 n2 m1 m2 (by omega) h.symm).symm
end Go.Proofs.Ytlihndekeaefcaa
