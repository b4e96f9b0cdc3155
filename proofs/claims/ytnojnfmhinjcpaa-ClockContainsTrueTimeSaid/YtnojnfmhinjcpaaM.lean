/- Plain arithmetic for the clock. -/
import Derived.Test.YtnojnfmhinjcpaaRows
namespace Go.Proofs.Ytnojnfmhinjcpaa
set_option linter.unusedVariables false
set_option linter.unusedSimpArgs false
def least (n d : Int) : Int := if 0 < n then ((n - 1) * 1000000 + (1000000 + d) - 1) / (1000000 + d) else 0
def great (n d : Int) : Int := (n + 1) * 1000000 / (1000000 - d)
theorem ceil_up {x f : Int} (hf : 0 < f) (h : x / f * f < x) : x / f + 1 = (x + f - 1) / f := by
  have h1 := Int.mul_ediv_add_emod x f
  have h2 := Int.emod_lt_of_pos x hf
  have h3 := Int.emod_nonneg x (Int.ne_of_gt hf)
  have e : f * (x / f) = x / f * f := Int.mul_comm _ _
  symm
  rw [Int.ediv_eq_iff_of_pos hf]
  have e2 : (x / f + 1) * f = x / f * f + f := by rw [Int.add_mul, Int.one_mul]
  omega
theorem ceil_same {x f : Int} (hf : 0 < f) (h : ¬ x / f * f < x) : x / f = (x + f - 1) / f := by
  have h1 := Int.mul_ediv_add_emod x f
  have h2 := Int.emod_lt_of_pos x hf
  have h3 := Int.emod_nonneg x (Int.ne_of_gt hf)
  have e : f * (x / f) = x / f * f := Int.mul_comm _ _
  symm
  rw [Int.ediv_eq_iff_of_pos hf]
  omega
theorem quo_bd {x f : Int} (hx : 0 ≤ x) (hf : 0 < f) : 0 ≤ x / f ∧ x / f ≤ x ∧ 0 ≤ x / f * f ∧ x / f * f ≤ x := by
  have h1 := Int.mul_ediv_add_emod x f
  have h3 := Int.emod_nonneg x (Int.ne_of_gt hf)
  have e : f * (x / f) = x / f * f := Int.mul_comm _ _
  have h4 : 0 ≤ x / f := Int.ediv_nonneg hx (Int.le_of_lt hf)
  have h5 : 0 ≤ x / f * f := Int.mul_nonneg h4 (Int.le_of_lt hf)
  exact ⟨h4, Int.ediv_le_self _ hx, h5, by omega⟩
def rdHi (hi d n : Int) : Int := min 1099511627776 (hi + (n + 1) * 1000000 / (1000000 - d))
def rdLo (lo d n : Int) : Int := min 1099511627776 (lo + least n d)
theorem rdHi_mono (hi d n m : Int) (hd : d ≤ 100000) (h : n ≤ m) : rdHi hi d n ≤ rdHi hi d m := by
  unfold rdHi
  have := Int.ediv_le_ediv (a := (n + 1) * 1000000) (b := (m + 1) * 1000000) (c := 1000000 - d) (by omega) (by omega)
  omega
theorem least_mono (d n m : Int) (hd : 0 ≤ d) (h : n ≤ m) : least n d ≤ least m d := by
  unfold least
  split
  · rw [if_pos (by omega)]
    exact Int.ediv_le_ediv (by omega) (by omega)
  · split
    · exact Int.ediv_nonneg (by omega) (by omega)
    · exact Int.le_refl _
theorem rdLo_mono (lo d n m : Int) (hd : 0 ≤ d) (h : n ≤ m) : rdLo lo d n ≤ rdLo lo d m := by
  unfold rdLo
  have := least_mono d n m hd h
  omega
theorem least_nonneg (d n : Int) (hd : 0 ≤ d) : 0 ≤ least n d := by
  unfold least
  split
  · exact Int.ediv_nonneg (by omega) (by omega)
  · exact Int.le_refl _
/-- What Until returns. -/
def UntilIs (l hi d t u : Int) : Prop :=
  (u = -1 ∧ ∀ x, l ≤ x → x ≤ 2199023255552 → t ≤ rdHi hi d (x - l)) ∨
  (l ≤ u ∧ u ≤ 2199023255552 ∧ rdHi hi d (u - l) < t ∧ (u < 2199023255552 → t ≤ rdHi hi d (u + 1 - l)))
theorem UntilIs.uniq {l hi d t u v : Int} (hd : d ≤ 100000) (h : UntilIs l hi d t u) (k : UntilIs l hi d t v) : u = v := by
  rcases h with ⟨h1, h2⟩ | ⟨h1, h2, h3, h4⟩ <;> rcases k with ⟨k1, k2⟩ | ⟨k1, k2, k3, k4⟩
  · omega
  · have := h2 v k1 k2; omega
  · have := k2 u h1 h2; omega
  · rcases Int.lt_trichotomy u v with c | c | c
    · have := h4 (by omega)
      have := rdHi_mono hi d (u + 1 - l) (v - l) hd (by omega)
      omega
    · exact c
    · have := k4 (by omega)
      have := rdHi_mono hi d (v + 1 - l) (u - l) hd (by omega)
      omega
end Go.Proofs.Ytnojnfmhinjcpaa
