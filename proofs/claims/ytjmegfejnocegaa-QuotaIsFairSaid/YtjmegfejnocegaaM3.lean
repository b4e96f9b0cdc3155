/- Mathematics of accounts. -/
import Derived.Test.YtjmegfejnocegaaH
namespace Go.Proofs.Ytjmegfejnocegaa
set_option linter.unusedVariables false
set_option linter.unusedSimpArgs false
/-- The tenant before place k, or 0. -/
def prevT (l : List Ac) : Nat → Int
  | 0 => 0
  | k + 1 => (l.getD k (0, 0, 0)).1
def okA (p : Int) (a : Ac) : Prop := p < a.1 ∧ 1 ≤ a.2.1 ∧ a.2.1 ≤ 1048576 ∧ 0 ≤ a.2.2 ∧ a.2.2 ≤ 1099511627776
instance (p : Int) (a : Ac) : Decidable (okA p a) := by unfold okA; infer_instance
def OkA (l : List Ac) : Prop := (∀ j, j < l.length → okA (prevT l j) (l.getD j (0, 0, 0))) ∧ l.length ≤ 1000
instance (l : List Ac) : Decidable (OkA l) := by unfold OkA; infer_instance
def vA (l : List Ac) : Bool := decide (OkA l)
theorem vA_no {l : List Ac} {k : Nat} (hk : k < l.length) (h : ¬ okA (prevT l k) (l.getD k (0, 0, 0))) : vA l = false := decide_eq_false fun e => h (e.1 k hk)
theorem vA_end {l : List Ac} (h : ∀ j, j < l.length → okA (prevT l j) (l.getD j (0, 0, 0))) : vA l = decide ((l.length : Int) ≤ 1000) := by
  unfold vA OkA
  apply decide_eq_decide.mpr
  constructor
  · rintro ⟨-, q⟩; omega
  · intro q; exact ⟨h, by omega⟩
theorem OkA.lt {l : List Ac} (h : OkA l) {i j : Nat} (hij : i < j) (hj : j < l.length) : (l.getD i (0, 0, 0)).1 < (l.getD j (0, 0, 0)).1 := by
  induction j with
  | zero => omega
  | succ j ih =>
    have h1 := (h.1 (j + 1) hj).1
    simp only [prevT] at h1
    rcases Nat.lt_or_ge i j with h2 | h2
    · have := ih h2 (by omega); omega
    · obtain rfl : i = j := by omega
      exact h1
theorem OkA.pos {l : List Ac} (h : OkA l) {j : Nat} (hj : j < l.length) : 0 < (l.getD j (0, 0, 0)).1 := by
  have h1 := (h.1 j hj).1
  cases j with
  | zero => exact h1
  | succ j => have := h.lt (i := 0) (j := j + 1) (by omega) hj; have h0 := (h.1 0 (by omega)).1; simp only [prevT] at h0; omega
theorem OkA.w {l : List Ac} (h : OkA l) {j : Nat} (hj : j < l.length) : 1 ≤ (l.getD j (0, 0, 0)).2.1 ∧ (l.getD j (0, 0, 0)).2.1 ≤ 1048576 ∧ 0 ≤ (l.getD j (0, 0, 0)).2.2 ∧ (l.getD j (0, 0, 0)).2.2 ≤ 1099511627776 := (h.1 j hj).2
/-- Where a tenant is, or would be. -/
def posA : List Ac → Int → Nat
  | [], _ => 0
  | a :: l, x => if a.1 < x then posA l x + 1 else 0
theorem posA_le (l : List Ac) (x : Int) : posA l x ≤ l.length := by
  induction l with
  | nil => simp [posA]
  | cons a l ih => simp only [posA, List.length_cons]; split <;> omega
theorem posA_below (l : List Ac) (x : Int) (j : Nat) (hj : j < posA l x) : (l.getD j (0, 0, 0)).1 < x := by
  induction l generalizing j with
  | nil => simp [posA] at hj
  | cons a l ih =>
    simp only [posA] at hj
    split at hj
    · cases j with
      | zero => simpa using ‹a.1 < x›
      | succ j => simp only [List.getD_cons_succ]; exact ih j (by omega)
    · omega
theorem posA_at (l : List Ac) (x : Int) (h : posA l x < l.length) : x ≤ (l.getD (posA l x) (0, 0, 0)).1 := by
  induction l with
  | nil => simp at h
  | cons a l ih =>
    by_cases ha : a.1 < x
    · have e : posA (a :: l) x = posA l x + 1 := by simp only [posA]; rw [if_pos ha]
      rw [e] at h ⊢
      simp only [List.getD_cons_succ]
      exact ih (by simpa using h)
    · have e : posA (a :: l) x = 0 := by simp only [posA]; rw [if_neg ha]
      rw [e]; simp only [List.getD_cons_zero]; omega
theorem OkA.above {l : List Ac} (h : OkA l) (x : Int) {j : Nat} (hj : posA l x ≤ j) (hl : j < l.length) : x ≤ (l.getD j (0, 0, 0)).1 := by
  have h1 := posA_at l x (by omega)
  rcases Nat.lt_or_ge (posA l x) j with h2 | h2
  · have := h.lt h2 hl; omega
  · obtain rfl : j = posA l x := by omega
    exact h1
/-- A place between smaller tenants and others is the tenant's. -/
theorem OkA.place {l : List Ac} (h : OkA l) (x : Int) (i : Nat) (hi : i ≤ l.length) (h1 : ∀ j, j < i → (l.getD j (0, 0, 0)).1 < x) (h2 : ∀ j, i ≤ j → j < l.length → x ≤ (l.getD j (0, 0, 0)).1) : i = posA l x := by
  rcases Nat.lt_trichotomy i (posA l x) with h3 | h3 | h3
  · have a := posA_below l x i h3
    have b := h2 i (Nat.le_refl _) (by have := posA_le l x; omega)
    omega
  · exact h3
  · have a := h1 _ h3
    have b := posA_at l x (by omega)
    omega
/-- Is a tenant there? -/
def hasA (l : List Ac) (x : Int) : Bool := decide (posA l x < l.length ∧ (l.getD (posA l x) (0, 0, 0)).1 = x)
theorem hasA_iff (l : List Ac) (x : Int) : hasA l x = true ↔ posA l x < l.length ∧ (l.getD (posA l x) (0, 0, 0)).1 = x := decide_eq_true_iff
theorem OkA.only {l : List Ac} (h : OkA l) {x : Int} {j : Nat} (hj : j < l.length) (e : (l.getD j (0, 0, 0)).1 = x) : j = posA l x ∧ hasA l x = true := by
  have hp : j = posA l x := h.place x j (by omega) (fun i hi => by have := h.lt hi hj; omega) (fun i hi hil => by
    rcases Nat.lt_or_ge j i with h2 | h2
    · have := h.lt h2 hil; omega
    · rw [show i = j by omega, e]; exact Int.le_refl _)
  exact ⟨hp, (hasA_iff l x).2 ⟨by omega, by rw [← hp]; exact e⟩⟩
theorem getD_insL (l : List Ac) (i : Nat) (x : Ac) (hi : i ≤ l.length) (j : Nat) : (insL l i x).getD j (0, 0, 0) = if j < i then l.getD j (0, 0, 0) else if j = i then x else l.getD (j - 1) (0, 0, 0) := by
  unfold insL
  simp only [List.getD_eq_getElem?_getD]
  split
  · rw [List.getElem?_append_left (by simp; omega), List.getElem?_take, if_pos (by assumption)]
  · rw [List.getElem?_append_right (by simp; omega), List.length_take, Nat.min_eq_left hi]
    split
    · rename_i e; subst e; simp
    · rw [show j - i = (j - 1 - i) + 1 by omega, List.getElem?_cons_succ, List.getElem?_drop, show i + (j - 1 - i) = j - 1 by omega]
/-- With one more tenant that is not there, accounts are accounts. -/
theorem OkA.ins {l : List Ac} (h : OkA l) (x w : Int) (hx : 1 ≤ x) (hw : 1 ≤ w) (hw2 : w ≤ 1048576) (hn : hasA l x = false) (hlen : l.length < 1000) : OkA (insL l (posA l x) (x, w, 0)) := by
  have hp := posA_le l x
  refine ⟨fun j hj => ?_, by rw [insL_len _ _ _ hp]; omega⟩
  rw [insL_len _ _ _ hp] at hj
  have hne : posA l x < l.length → x < (l.getD (posA l x) (0, 0, 0)).1 := fun h1 => by
    have h2 := posA_at l x h1
    have h3 : (l.getD (posA l x) (0, 0, 0)).1 ≠ x := fun e => by rw [(hasA_iff l x).2 ⟨h1, e⟩] at hn; cases hn
    omega
  rw [getD_insL _ _ _ hp]
  have hprev : prevT (insL l (posA l x) (x, w, 0)) j = if j ≤ posA l x then prevT l j else if j = posA l x + 1 then x else prevT l (j - 1) := by
    cases j with
    | zero => simp [prevT]
    | succ j =>
      show ((insL l (posA l x) (x, w, 0)).getD j (0, 0, 0)).1 = _
      rw [getD_insL _ _ _ hp]
      by_cases h1 : j < posA l x
      · rw [if_pos h1, if_pos (show j + 1 ≤ posA l x by omega)]; rfl
      · rw [if_neg h1, if_neg (show ¬ j + 1 ≤ posA l x by omega)]
        by_cases h2 : j = posA l x
        · rw [if_pos h2, if_pos (show j + 1 = posA l x + 1 by omega)]
        · rw [if_neg h2, if_neg (show ¬ j + 1 = posA l x + 1 by omega)]
          obtain ⟨m, rfl⟩ : ∃ m, j = m + 1 := ⟨j - 1, by omega⟩
          rfl
  rw [hprev]
  by_cases h1 : j < posA l x
  · rw [if_pos (by omega), if_pos h1]; exact h.1 j (by omega)
  · rw [if_neg h1]
    by_cases h2 : j = posA l x
    · rw [if_pos (by omega), if_pos h2]
      refine ⟨?_, hw, hw2, by simp, by simp⟩
      subst h2
      simp only
      cases hq : posA l x with
      | zero => simp [prevT]; omega
      | succ q => simp only [prevT]; exact posA_below l x q (by omega)
    · rw [if_neg (by omega), if_neg h2]
      have hk := h.1 (j - 1) (by omega)
      by_cases h3 : j = posA l x + 1
      · rw [if_pos h3]
        refine ⟨?_, hk.2⟩
        have := hne (by omega)
        rw [show j - 1 = posA l x by omega]; exact this
      · rw [if_neg h3]; exact hk
/-- The list in which tenant k uses more. -/
def useL (l : List Ac) (k : Nat) (u : Int) : List Ac := l.set k ((l.getD k (0, 0, 0)).1, (l.getD k (0, 0, 0)).2.1, u)
theorem useL_len (l : List Ac) (k : Nat) (u : Int) : (useL l k u).length = l.length := by simp [useL]
theorem getD_useL (l : List Ac) (k : Nat) (u : Int) (hk : k < l.length) (j : Nat) : (useL l k u).getD j (0, 0, 0) = if j = k then ((l.getD k (0, 0, 0)).1, (l.getD k (0, 0, 0)).2.1, u) else l.getD j (0, 0, 0) := by
  unfold useL
  simp only [List.getD_eq_getElem?_getD]
  split
  · rename_i e; subst e; rw [List.getElem?_set_self hk]; rfl
  · rw [List.getElem?_set_ne (by omega)]
theorem OkA.use {l : List Ac} (h : OkA l) (k : Nat) (u : Int) (hk : k < l.length) (h0 : 0 ≤ u) (h1 : u ≤ 1099511627776) : OkA (useL l k u) := by
  refine ⟨fun j hj => ?_, by rw [useL_len]; exact h.2⟩
  rw [useL_len] at hj
  have hprev : prevT (useL l k u) j = prevT l j := by
    cases j with
    | zero => rfl
    | succ j => simp only [prevT, getD_useL _ _ _ hk]; split
                · rename_i e; subst e; rfl
                · rfl
  rw [hprev, getD_useL _ _ _ hk]
  have hj' := h.1 j hj
  split
  · rename_i e; subst e; exact ⟨hj'.1, hj'.2.1, hj'.2.2.1, h0, h1⟩
  · exact hj'
def used (l : List Ac) : Int := sumF (fun a => a.2.2) l
theorem used_take (l : List Ac) (k : Nat) (h : k < l.length) : used (l.take (k + 1)) = used (l.take k) + (l.getD k (0, 0, 0)).2.2 := sumF_take _ l k (0, 0, 0) h
end Go.Proofs.Ytjmegfejnocegaa
