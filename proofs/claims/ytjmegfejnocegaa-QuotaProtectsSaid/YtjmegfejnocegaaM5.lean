/- Mathematics of what victims protect. -/
import Derived.Test.YtjmegfejnocegaaM4
namespace Go.Proofs.Ytjmegfejnocegaa
set_option linter.unusedVariables false
set_option linter.unusedSimpArgs false
def wtA (l : List Ac) : Int := sumF (fun a => a.2.1) l
theorem wtA_take (l : List Ac) (k : Nat) (h : k < l.length) : wtA (l.take (k + 1)) = wtA (l.take k) + (l.getD k (0, 0, 0)).2.1 := sumF_take _ l k (0, 0, 0) h
theorem wtA_wants (l : List Ac) (p : Nat) (m : Int) : weights (wantsL l p m) = wtA l := by
  have key : ∀ k, k ≤ l.length → weights ((wantsL l p m).take k) = wtA (l.take k) := by
    intro k
    induction k with
    | zero => intro _; simp [weights, wtA, sumF]
    | succ k ih =>
      intro hk
      rw [wtA_take l k (by omega), ← ih (by omega)]
      unfold weights
      rw [sumF_take _ _ k (0, 0) (by rw [wantsL_len]; omega), wantsL_at _ _ _ _ (by omega)]
  have h1 := key l.length (Nat.le_refl _)
  rw [List.take_length] at h1
  rwa [List.take_of_length_le (by rw [wantsL_len]; exact Nat.le_refl _)] at h1
theorem wtA_bd {l : List Ac} (h : OkA l) (k : Nat) (hk : k ≤ l.length) : 0 ≤ wtA (l.take k) ∧ wtA (l.take k) ≤ 1048576 * k := by
  induction k with
  | zero => simp [wtA, sumF]
  | succ k ih =>
    rw [wtA_take l k (by omega)]
    have := ih (by omega)
    have := h.w (j := k) (by omega)
    omega
theorem wtA_le {l : List Ac} (h : OkA l) {p : Nat} (hp : p < l.length) : 1 ≤ (l.getD p (0, 0, 0)).2.1 ∧ (l.getD p (0, 0, 0)).2.1 ≤ wtA l := by
  refine ⟨(h.w hp).1, ?_⟩
  refine sumF_mem (fun a : Ac => a.2.1) l (fun a ha => ?_) _ (by rw [List.getD_eq_getElem?_getD, List.getElem?_eq_getElem hp]; exact List.getElem_mem _)
  obtain ⟨i, hi, rfl⟩ := List.getElem_of_mem ha
  have := h.w hi
  rw [getD_at (0, 0, 0) hi] at this
  omega
/-- A part is at most all. -/
theorem part_le {l : List Ac} (h : OkA l) {p : Nat} (hp : p < l.length) (n : Int) (h0 : 0 ≤ n) : 0 ≤ n / wtA l ∧ n / wtA l ≤ n ∧ 0 ≤ (l.getD p (0, 0, 0)).2.1 * (n / wtA l) ∧ (l.getD p (0, 0, 0)).2.1 * (n / wtA l) ≤ n := by
  obtain ⟨a, b⟩ := wtA_le h hp
  have q0 : 0 ≤ n / wtA l := Int.ediv_nonneg h0 (by omega)
  have q1 := Int.ediv_mul_le n (show wtA l ≠ 0 by omega)
  have q2 := Int.mul_le_mul_of_nonneg_right b q0
  have q3 := Int.mul_le_mul_of_nonneg_right a q0
  rw [Int.mul_comm] at q1
  omega
/-- Whose division falls short would have more than its part. -/
theorem late_part {l : List Ac} (h : OkA l) {p : Nat} (hp : p < l.length) {c m n : Int} (hc : 0 ≤ c) (hcM : c ≤ 1099511627776) (hm : 0 ≤ m) (hn : IsLev c (wantsL l p m) n) (hs : (fairC c n (wantsL l p m)).getD p 0 < (l.getD p (0, 0, 0)).2.2 + m) :
    (l.getD p (0, 0, 0)).2.1 * (c / wtA l) < (l.getD p (0, 0, 0)).2.2 + m := by
  have hok := wantsL_ok h p m hm
  have hpl : p < (wantsL l p m).length := by rw [wantsL_len]; exact hp
  have e1 := wantsL_at l p m p hp
  rw [if_pos rfl] at e1
  rcases Int.lt_or_le ((fairC c n (wantsL l p m)).getD p 0) ((wantsL l p m).getD p (0, 0)).2 with hlt | hge
  · have := fairC_part c n _ hok hn hc hcM p hpl hlt
    rw [e1, wtA_wants] at this
    simp only at this
    omega
  · rw [e1] at hge
    simp only at hge
    have := part_le h hp c hc
    omega
theorem bestK_or (l : List Ac) (gs : List Int) (p : Nat) : ∀ k, k ≤ l.length → (bestK l gs p k = (0, 0) ∧ ∀ j, j < k → j ≠ p → (l.getD j (0, 0, 0)).2.2 ≤ gs.getD j 0) ∨ ∃ j, j < k ∧ j ≠ p ∧ bestK l gs p k = ((l.getD j (0, 0, 0)).1, (l.getD j (0, 0, 0)).2.2 - gs.getD j 0) ∧ gs.getD j 0 < (l.getD j (0, 0, 0)).2.2
  | 0, _ => Or.inl ⟨rfl, fun j hj => by omega⟩
  | k + 1, hk => by
    have ih := bestK_or l gs p k (by omega)
    unfold bestK
    split
    · rename_i hc
      refine Or.inr ⟨k, by omega, hc.1, rfl, ?_⟩
      rcases ih with ⟨e, -⟩ | ⟨j, -, -, e, hj⟩
      · rw [e] at hc; have := hc.2; simp only at this; omega
      · rw [e] at hc; have := hc.2; simp only at this; omega
    · rename_i hc
      rcases ih with ⟨e, h⟩ | ⟨j, h1, h2, h3, h4⟩
      · refine Or.inl ⟨e, fun j hj hjp => ?_⟩
        by_cases hjk : j = k
        · subst hjk
          rw [e] at hc
          rcases Int.lt_or_le (gs.getD j 0) (l.getD j (0, 0, 0)).2.2 with h5 | h5
          · exact absurd ⟨hjp, by simp only; omega⟩ hc
          · exact h5
        · exact h j (by omega) hjp
      · exact Or.inr ⟨j, by omega, h2, h3, h4⟩
theorem sum_over (l : List Ac) (gs : List Int) (p : Nat) (m : Int) (hl : gs.length = l.length) (h : ∀ j, j < l.length → j ≠ p → (l.getD j (0, 0, 0)).2.2 ≤ gs.getD j 0) (hp : (l.getD p (0, 0, 0)).2.2 + m ≤ gs.getD p 0) :
    ∀ k, k ≤ l.length → used (l.take k) + (if p < k then m else 0) ≤ sumF id (gs.take k)
  | 0, _ => by simp [used, sumF]
  | k + 1, hk => by
    have ih := sum_over l gs p m hl h hp k (by omega)
    rw [used_take l k (by omega), sumF_take id gs k 0 (by omega)]
    show _ ≤ _ + gs.getD k 0
    by_cases hkp : k = p
    · subst hkp
      rw [if_neg (by omega)] at ih
      rw [if_pos (by omega)]
      omega
    · have := h k (by omega) hkp
      by_cases hpk : p < k
      · rw [if_pos hpk] at ih; rw [if_pos (by omega)]; omega
      · rw [if_neg hpk] at ih; rw [if_neg (by omega)]; omega
/-- When all is divided and it does not fit, somebody has more than it is given. -/
theorem best_some {l : List Ac} (h : OkA l) {p : Nat} (hp : p < l.length) {c m n : Int} (hm : 0 ≤ m) (hn : IsLev c (wantsL l p m) n) (hov : c < used l + m)
    (hs : ¬ (fairC c n (wantsL l p m)).getD p 0 < (l.getD p (0, 0, 0)).2.2 + m) :
    ∃ j, j < l.length ∧ j ≠ p ∧ (bestK l (fairC c n (wantsL l p m)) p l.length).1 = (l.getD j (0, 0, 0)).1 ∧ (fairC c n (wantsL l p m)).getD j 0 < (l.getD j (0, 0, 0)).2.2 := by
  have hok := wantsL_ok h p m hm
  have hlen : (fairC c n (wantsL l p m)).length = l.length := by unfold fairC; rw [fairL_len, wantsL_len]
  rcases bestK_or l (fairC c n (wantsL l p m)) p l.length (Nat.le_refl _) with ⟨-, hall⟩ | ⟨j, h1, h2, h3, h4⟩
  · exfalso
    have h1 := sum_over l _ p m hlen hall (by omega) l.length (Nat.le_refl _)
    rw [List.take_length, List.take_of_length_le (by omega), if_pos hp, fairC_sum c n _ hok hn] at h1
    omega
  · exact ⟨j, h1, h2, by rw [h3], h4⟩
/-- And it has more than its part. -/
theorem best_part {l : List Ac} (h : OkA l) {p j : Nat} (hj : j < l.length) (hjp : j ≠ p) {c m n : Int} (hc : 0 ≤ c) (hcM : c ≤ 1099511627776) (hm : 0 ≤ m) (hn : IsLev c (wantsL l p m) n) (hs : (fairC c n (wantsL l p m)).getD j 0 < (l.getD j (0, 0, 0)).2.2) :
    (l.getD j (0, 0, 0)).2.1 * (c / wtA l) < (l.getD j (0, 0, 0)).2.2 := by
  have hok := wantsL_ok h p m hm
  have e1 := wantsL_at l p m j hj
  rw [if_neg hjp] at e1
  have := fairC_part c n _ hok hn hc hcM j (by rw [wantsL_len]; exact hj) (by rw [e1]; exact hs)
  rw [e1, wtA_wants] at this
  simp only at this
  omega
/-- What Victim's answer means to the law. -/
theorem victR_says {l : List Ac} (h : OkA l) {p : Nat} (hp : p < l.length) {c m : Int} (hc : 0 ≤ c) (hcM : c ≤ 1099511627776) (hm : 0 ≤ m) (hmM : m ≤ 1099511627776) {r : Int × Int} (hr : VictR c l (l.getD p (0, 0, 0)).1 m r) :
    (r = (0, 0) ∧ used l + m ≤ c) ∨ (r = (0, 160) ∧ (l.getD p (0, 0, 0)).2.1 * (c / wtA l) < (l.getD p (0, 0, 0)).2.2 + m) ∨
    ∃ j n, IsLev c (wantsL l p m) n ∧ j < l.length ∧ j ≠ p ∧ r = ((l.getD j (0, 0, 0)).1, 0) ∧ (fairC c n (wantsL l p m)).getD j 0 < (l.getD j (0, 0, 0)).2.2 ∧ (l.getD j (0, 0, 0)).2.1 * (c / wtA l) < (l.getD j (0, 0, 0)).2.2 := by
  obtain ⟨e, hh⟩ := h.only hp rfl
  by_cases hu : used l + m ≤ c
  · have := early_0 hh (by omega) hu
    unfold VictR at hr; rw [this] at hr
    exact Or.inl ⟨hr, hu⟩
  · have he := early_n hh (by omega) hu
    unfold VictR at hr; rw [he, ← e] at hr
    obtain ⟨n, hn, rfl⟩ := hr
    unfold lateV
    split
    · rename_i hs
      exact Or.inr (Or.inl ⟨rfl, late_part h hp hc hcM hm hn hs⟩)
    · rename_i hs
      obtain ⟨j, h1, h2, h3, h4⟩ := best_some h hp hm hn (by omega) hs
      exact Or.inr (Or.inr ⟨j, n, hn, h1, h2, by rw [h3], h4, best_part h h1 h2 hc hcM hm hn h4⟩)
end Go.Proofs.Ytjmegfejnocegaa
