/- Mathematics of divisions that are fair. -/
import Derived.Test.YtjmegfejnocegaaM
namespace Go.Proofs.Ytjmegfejnocegaa
set_option linter.unusedVariables false
set_option linter.unusedSimpArgs false
def ce (g w : Int) : Int := (g + w - 1) / w - 1
theorem ce_bd (g w : Int) (hw : 1 ≤ w) (h0 : 0 ≤ g) (h1 : g ≤ 1099511627776) : -1 ≤ ce g w ∧ ce g w ≤ 1099511627776 := by
  unfold ce
  have a : 0 ≤ (g + w - 1) / w := Int.ediv_nonneg (by omega) (by omega)
  have b : (g + w - 1) / w ≤ g := by
    rcases Int.lt_or_le 0 g with h | h
    · have : (g + w - 1) / w < g + 1 := Int.ediv_lt_of_lt_mul (by omega) (by
        have : (g + 1) * w = g * w + w := by rw [Int.add_mul]; omega
        have : g * 1 ≤ g * w := Int.mul_le_mul_of_nonneg_left hw h0
        omega)
      omega
    · obtain rfl : g = 0 := by omega
      rw [show (0 : Int) + w - 1 = w - 1 by omega, Int.ediv_eq_zero_of_lt (by omega) (by omega)]
      omega
  omega
theorem ce_le (g w n : Int) (hw : 1 ≤ w) (h : ce g w ≤ n) : g ≤ w * (n + 1) := by
  unfold ce at h
  have a := Int.emod_lt_of_pos (g + w - 1) (show 0 < w by omega)
  have b := Int.mul_ediv_add_emod (g + w - 1) w
  have c : w * ((g + w - 1) / w) ≤ w * (n + 1) := Int.mul_le_mul_of_nonneg_left (by omega) (by omega)
  omega
theorem le_quo (g w n : Int) (hw : 1 ≤ w) : n ≤ g / w ↔ w * n ≤ g := by
  rw [Int.le_ediv_iff_mul_le (by omega), Int.mul_comm]
def lowK (l : List Sh) (gs : List Int) : Nat → Int
  | 0 => 0
  | k + 1 => max (lowK l gs k) (ce (gs.getD k 0) (l.getD k (0, 0)).1)
def highK (l : List Sh) (gs : List Int) : Nat → Int
  | 0 => 1099511627776
  | k + 1 => if gs.getD k 0 < (l.getD k (0, 0)).2 then min (highK l gs k) (gs.getD k 0 / (l.getD k (0, 0)).1) else highK l gs k
/-- Each of the first k gets something from 0 to its want. -/
def InK (l : List Sh) (gs : List Int) (k : Nat) : Prop := ∀ j, j < k → 0 ≤ gs.getD j 0 ∧ gs.getD j 0 ≤ (l.getD j (0, 0)).2
theorem InK.snoc {l : List Sh} {gs : List Int} {k : Nat} (h : InK l gs k) (h2 : 0 ≤ gs.getD k 0 ∧ gs.getD k 0 ≤ (l.getD k (0, 0)).2) : InK l gs (k + 1) := fun j hj => by
  rcases Nat.lt_or_ge j k with h' | h'
  · exact h j h'
  · rw [show j = k by omega]; exact h2
theorem lowK_bd (l : List Sh) (gs : List Int) (hl : OkS l) : ∀ k, k ≤ l.length → InK l gs k → 0 ≤ lowK l gs k ∧ lowK l gs k ≤ 1099511627776
  | 0, _, _ => by simp [lowK]
  | k + 1, hk, hi => by
    have := lowK_bd l gs hl k (by omega) (fun j hj => hi j (by omega))
    obtain ⟨a, b⟩ := hi k (by omega)
    obtain ⟨o1, o2, o3, o4⟩ := hl.at_ (k := k) (by omega)
    have := ce_bd (gs.getD k 0) _ o1 a (by omega)
    simp only [lowK]; omega
theorem highK_bd (l : List Sh) (gs : List Int) (hl : OkS l) : ∀ k, k ≤ l.length → InK l gs k → 0 ≤ highK l gs k ∧ highK l gs k ≤ 1099511627776
  | 0, _, _ => by simp [highK]
  | k + 1, hk, hi => by
    have := highK_bd l gs hl k (by omega) (fun j hj => hi j (by omega))
    obtain ⟨a, b⟩ := hi k (by omega)
    obtain ⟨o1, o2, o3, o4⟩ := hl.at_ (k := k) (by omega)
    have : 0 ≤ gs.getD k 0 / (l.getD k (0, 0)).1 := Int.ediv_nonneg a (by omega)
    simp only [highK]; split <;> omega
theorem lowK_ge (l : List Sh) (gs : List Int) : ∀ k j, j < k → ce (gs.getD j 0) (l.getD j (0, 0)).1 ≤ lowK l gs k
  | 0, j, h => by omega
  | k + 1, j, h => by
    simp only [lowK]
    rcases Nat.lt_or_ge j k with h' | h'
    · have := lowK_ge l gs k j h'; omega
    · rw [show j = k by omega]; omega
theorem highK_iff (l : List Sh) (gs : List Int) (n : Int) : ∀ k, n ≤ highK l gs k ↔ n ≤ 1099511627776 ∧ ∀ j, j < k → gs.getD j 0 < (l.getD j (0, 0)).2 → n ≤ gs.getD j 0 / (l.getD j (0, 0)).1
  | 0 => by simp [highK]
  | k + 1 => by
    have ih := highK_iff l gs n k
    simp only [highK]
    constructor
    · intro h
      have hk : n ≤ highK l gs k := by split at h <;> omega
      obtain ⟨h1, h2⟩ := ih.1 hk
      refine ⟨h1, fun j hj hlt => ?_⟩
      rcases Nat.lt_or_ge j k with h' | h'
      · exact h2 j h' hlt
      · obtain rfl : j = k := by omega
        rw [if_pos hlt] at h; omega
    · rintro ⟨h1, h2⟩
      have hk := ih.2 ⟨h1, fun j hj => h2 j (by omega)⟩
      split
      · rename_i hlt
        have := h2 k (by omega) hlt; omega
      · exact hk
/-- Does a division lie as it must for level n? -/
def Win (l : List Sh) (gs : List Int) (n : Int) (k : Nat) : Prop := ∀ j, j < k → ¬ (gs.getD j 0 < (l.getD j (0, 0)).2 ∧ gs.getD j 0 < (l.getD j (0, 0)).1 * n) ∧ gs.getD j 0 ≤ (l.getD j (0, 0)).1 * (n + 1)
theorem win_iff (l : List Sh) (gs : List Int) (hl : OkS l) (hi : InK l gs l.length) : Win l gs (lowK l gs l.length) l.length ↔ lowK l gs l.length ≤ highK l gs l.length := by
  rw [highK_iff]
  have bd := lowK_bd l gs hl l.length (Nat.le_refl _) hi
  constructor
  · intro h
    refine ⟨bd.2, fun j hj hlt => ?_⟩
    have := (h j hj).1
    rw [le_quo _ _ _ (hl.at_ hj).1]
    omega
  · rintro ⟨-, h⟩ j hj
    refine ⟨fun ⟨h1, h2⟩ => ?_, ce_le _ _ _ (hl.at_ hj).1 (lowK_ge l gs _ j hj)⟩
    have := h j hj h1
    rw [le_quo _ _ _ (hl.at_ hj).1] at this
    omega
/-- Is a division fair? -/
def Exp (c : Int) (l : List Sh) (gs : List Int) : Prop := gs.length = l.length ∧ InK l gs l.length ∧ sumF id gs = min c (wants l) ∧ lowK l gs l.length ≤ highK l gs l.length
/-- What is given at a level is fair. -/
theorem fairC_exp (c n : Int) (l : List Sh) (hl : OkS l) (h : IsLev c l n) : Exp c l (fairC c n l) := by
  have hi : InK l (fairC c n l) l.length := fun j hj => fairC_low c n l hl h j hj
  refine ⟨by unfold fairC; exact fairL_len _ _ _, hi, fairC_sum c n l hl h, ?_⟩
  have key : ∀ k, k ≤ l.length → lowK l (fairC c n l) k ≤ n := by
    intro k
    induction k with
    | zero => intro _; simp [lowK]; exact h.1
    | succ k ih =>
      intro hk
      have h1 := ih (by omega)
      have h2 := fairC_up c n l hl h k (by omega)
      obtain ⟨o1, o2, o3, o4⟩ := hl.at_ (k := k) (by omega)
      have h3 : ce ((fairC c n l).getD k 0) (l.getD k (0, 0)).1 ≤ n := by
        unfold ce
        have : ((fairC c n l).getD k 0 + (l.getD k (0, 0)).1 - 1) / (l.getD k (0, 0)).1 < n + 1 + 1 := Int.ediv_lt_of_lt_mul (by omega) (by
          rw [Int.add_mul]; omega)
        omega
      simp only [lowK]; omega
  have h2 := key l.length (Nat.le_refl _)
  refine Int.le_trans h2 ((highK_iff l _ n _).2 ⟨h.2.1, fun j hj hlt => ?_⟩)
  rw [le_quo _ _ _ (hl.at_ hj).1, Int.mul_comm]
  exact fairC_level c n l hl h j hj hlt
end Go.Proofs.Ytjmegfejnocegaa
