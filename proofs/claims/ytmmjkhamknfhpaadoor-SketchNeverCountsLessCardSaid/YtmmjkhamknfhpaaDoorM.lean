/- Sketches of counts, as lists of integers: places, the least cell, adding, halving, merging. -/
import Derived.WalkKit
namespace Go.Proofs.YtmmjkhamknfhpaaDoor
set_option linter.unusedVariables false
set_option linter.unusedSimpArgs false
/-- The cell of a key in a row: p r is the number of the key in row r. -/
def idx (W : Nat) (p : Nat → Nat) (r : Nat) : Nat := r * W + p r % W
theorem idx_lt {W : Nat} (p : Nat → Nat) {r : Nat} (hW : 0 < W) (hr : r < 4) : idx W p r < 4 * W := by
  unfold idx
  have h1 := Nat.mod_lt (p r) hW
  have h2 : r * W ≤ 3 * W := Nat.mul_le_mul_right W (by omega)
  omega
theorem idx_row {W : Nat} (p q : Nat → Nat) {r s : Nat} (hW : 0 < W) (h : idx W p r = idx W q s) : r = s ∧ p r % W = q s % W := by
  unfold idx at h
  have h1 := Nat.mod_lt (p r) hW
  have h2 := Nat.mod_lt (q s) hW
  have e1 : (r * W + p r % W) / W = r := by rw [Nat.mul_comm, Nat.mul_add_div hW, Nat.div_eq_of_lt h1]; omega
  have e2 : (s * W + q s % W) / W = s := by rw [Nat.mul_comm, Nat.mul_add_div hW, Nat.div_eq_of_lt h2]; omega
  have e3 : r = s := by rw [← e1, h, e2]
  subst e3
  exact ⟨rfl, by omega⟩
/-- The least of the first r cells of a key, at most 15. -/
def cntK (W : Nat) (p : Nat → Nat) (l : List Int) : Nat → Int
  | 0 => 15
  | r + 1 => min (cntK W p l r) (l.getD (idx W p r) 0)
def cnt (W : Nat) (p : Nat → Nat) (l : List Int) : Int := cntK W p l 4
theorem cntK_le (W : Nat) (p : Nat → Nat) (l : List Int) : ∀ r, cntK W p l r ≤ 15
  | 0 => by simp [cntK]
  | r + 1 => by have := cntK_le W p l r; simp only [cntK]; omega
theorem cntK_cell (W : Nat) (p : Nat → Nat) (l : List Int) : ∀ r j, j < r → cntK W p l r ≤ l.getD (idx W p j) 0
  | 0, j, h => by omega
  | r + 1, j, h => by
    simp only [cntK]
    rcases Nat.lt_or_ge j r with hj | hj
    · have := cntK_cell W p l r j hj; omega
    · rw [show j = r by omega]; omega
theorem cntK_ge (W : Nat) (p : Nat → Nat) (l : List Int) (m : Int) (hm : m ≤ 15) : ∀ r, (∀ j, j < r → m ≤ l.getD (idx W p j) 0) → m ≤ cntK W p l r
  | 0, _ => by simpa [cntK] using hm
  | r + 1, h => by
    have h1 := cntK_ge W p l m hm r fun j hj => h j (by omega)
    have h2 := h r (by omega)
    simp only [cntK]
    omega
theorem cnt_le (W : Nat) (p : Nat → Nat) (l : List Int) : cnt W p l ≤ 15 := cntK_le W p l 4
theorem cnt_cell (W : Nat) (p : Nat → Nat) (l : List Int) {r : Nat} (hr : r < 4) : cnt W p l ≤ l.getD (idx W p r) 0 := cntK_cell W p l 4 r hr
theorem cnt_ge (W : Nat) (p : Nat → Nat) (l : List Int) (m : Int) (hm : m ≤ 15) (h : ∀ r, r < 4 → m ≤ l.getD (idx W p r) 0) : m ≤ cnt W p l := cntK_ge W p l m hm 4 h
theorem cntK_is (W : Nat) (p : Nat → Nat) (l : List Int) : ∀ r, cntK W p l r = 15 ∨ ∃ j, j < r ∧ cntK W p l r = l.getD (idx W p j) 0
  | 0 => Or.inl rfl
  | r + 1 => by
    simp only [cntK]
    rcases Int.le_total (cntK W p l r) (l.getD (idx W p r) 0) with h | h
    · rw [Int.min_eq_left h]
      rcases cntK_is W p l r with h1 | ⟨j, hj, h1⟩
      · exact Or.inl h1
      · exact Or.inr ⟨j, by omega, h1⟩
    · rw [Int.min_eq_right h]
      exact Or.inr ⟨r, by omega, rfl⟩
/-- The cells after the first r rows of a key whose count is n were looked at. -/
def addK (W : Nat) (p : Nat → Nat) (l : List Int) (n : Int) : Nat → List Int
  | 0 => l
  | r + 1 => if l.getD (idx W p r) 0 = n ∧ n < 15 then (addK W p l n r).set (idx W p r) (n + 1) else addK W p l n r
theorem addK_len (W : Nat) (p : Nat → Nat) (l : List Int) (n : Int) : ∀ r, (addK W p l n r).length = l.length
  | 0 => rfl
  | r + 1 => by simp only [addK]; split <;> simp [addK_len W p l n r]
theorem addK_far (W : Nat) (p : Nat → Nat) (l : List Int) (n : Int) (j : Nat) : ∀ r, (∀ s, s < r → idx W p s ≠ j) → (addK W p l n r).getD j 0 = l.getD j 0
  | 0, _ => rfl
  | r + 1, h => by
    have h1 := addK_far W p l n j r fun s hs => h s (by omega)
    have h2 := h r (by omega)
    simp only [addK]
    split
    · rw [List.getD_eq_getElem?_getD, List.getElem?_set_ne h2, ← List.getD_eq_getElem?_getD, h1]
    · exact h1
/-- The cell that row r looks at is as it was. -/
theorem addK_own {W : Nat} (p : Nat → Nat) (l : List Int) (n : Int) (hW : 0 < W) (r : Nat) : (addK W p l n r).getD (idx W p r) 0 = l.getD (idx W p r) 0 :=
  addK_far W p l n _ r fun s hs h => by have := (idx_row p p hW h).1; omega
def addL (W : Nat) (p : Nat → Nat) (l : List Int) : List Int := addK W p l (cnt W p l) 4
theorem addK_at {W : Nat} (p : Nat → Nat) (l : List Int) (n : Int) (hW : 0 < W) (hl : l.length = 4 * W) {s : Nat} (hs : s < 4) : ∀ r, r ≤ 4 → s < r →
    (addK W p l n r).getD (idx W p s) 0 = if l.getD (idx W p s) 0 = n ∧ n < 15 then n + 1 else l.getD (idx W p s) 0
  | 0, _, h => by omega
  | r + 1, hr, h => by
    rcases Nat.lt_or_ge s r with hj | hj
    · have h1 := addK_at p l n hW hl hs r (by omega) hj
      have h2 : idx W p r ≠ idx W p s := fun e => by have := (idx_row p p hW e).1; omega
      simp only [addK]
      split
      · rw [List.getD_eq_getElem?_getD, List.getElem?_set_ne h2, ← List.getD_eq_getElem?_getD, h1]
      · exact h1
    · obtain rfl : s = r := by omega
      simp only [addK]
      split
      · rename_i hc
        rw [List.getD_eq_getElem?_getD, List.getElem?_set_self (by rw [addK_len, hl]; exact idx_lt p hW hs)]
        rfl
      · exact addK_own p l n hW s
theorem addL_at {W : Nat} (p : Nat → Nat) (l : List Int) (hW : 0 < W) (hl : l.length = 4 * W) {s : Nat} (hs : s < 4) :
    (addL W p l).getD (idx W p s) 0 = if l.getD (idx W p s) 0 = cnt W p l ∧ cnt W p l < 15 then cnt W p l + 1 else l.getD (idx W p s) 0 := addK_at p l _ hW hl hs 4 (by omega) hs
theorem addL_far (W : Nat) (p : Nat → Nat) (l : List Int) (j : Nat) (h : ∀ s, s < 4 → idx W p s ≠ j) : (addL W p l).getD j 0 = l.getD j 0 := addK_far W p l _ j 4 h
theorem addL_len (W : Nat) (p : Nat → Nat) (l : List Int) : (addL W p l).length = l.length := addK_len W p l _ 4
/-- Each cell is as it was, or greater by one. -/
theorem addL_step {W : Nat} (p : Nat → Nat) (l : List Int) (hW : 0 < W) (hl : l.length = 4 * W) (j : Nat) : (addL W p l).getD j 0 = l.getD j 0 ∨ ((addL W p l).getD j 0 = l.getD j 0 + 1 ∧ l.getD j 0 = cnt W p l ∧ cnt W p l < 15) := by
  by_cases h : ∃ s, s < 4 ∧ idx W p s = j
  · obtain ⟨s, hs, rfl⟩ := h
    rw [addL_at p l hW hl hs]
    split
    · rename_i hc; right; exact ⟨by rw [hc.1], hc⟩
    · left; rfl
  · left
    exact addL_far W p l j fun s hs e => h ⟨s, hs, e⟩
/-- The count of a key that was added. -/
theorem cnt_addL {W : Nat} (p : Nat → Nat) (l : List Int) (hW : 0 < W) (hl : l.length = 4 * W) : cnt W p (addL W p l) = min (cnt W p l + 1) 15 := by
  have hle := cnt_le W p l
  apply Int.le_antisymm
  · rcases cntK_is W p l 4 with h | ⟨j, hj, h⟩
    · have : cnt W p l = 15 := h
      have h2 := cnt_le W p (addL W p l)
      omega
    · have h1 := cnt_cell W p (addL W p l) hj
      have h2 := cnt_le W p (addL W p l)
      have h3 : cnt W p l = l.getD (idx W p j) 0 := h
      rw [addL_at p l hW hl hj] at h1
      split at h1 <;> omega
  · apply cnt_ge _ _ _ _ (by omega)
    intro r hr
    have h1 := cnt_cell W p l hr
    rw [addL_at p l hW hl hr]
    split <;> omega
/-- The count of another key changes by at most one. -/
theorem cnt_other {W : Nat} (p q : Nat → Nat) (l : List Int) (hW : 0 < W) (hl : l.length = 4 * W) : cnt W q l ≤ cnt W q (addL W p l) ∧ cnt W q (addL W p l) ≤ cnt W q l + 1 := by
  constructor
  · apply cnt_ge _ _ _ _ (cnt_le _ _ _)
    intro r hr
    have h1 := cnt_cell W q l hr
    rcases addL_step p l hW hl (idx W q r) with h | h <;> omega
  · rcases cntK_is W q l 4 with h | ⟨j, hj, h⟩
    · have : cnt W q l = 15 := h
      have h2 := cnt_le W q (addL W p l)
      omega
    · have h1 := cnt_cell W q (addL W p l) hj
      have h3 : cnt W q l = l.getD (idx W q j) 0 := h
      rcases addL_step p l hW hl (idx W q j) with h | h <;> omega
def halve (l : List Int) : List Int := l.map (· / 2)
theorem halve_at (l : List Int) (j : Nat) : (halve l).getD j 0 = l.getD j 0 / 2 := by
  unfold halve
  rw [List.getD_eq_getElem?_getD, List.getD_eq_getElem?_getD, List.getElem?_map]
  cases l[j]? <;> simp
theorem cntK_halve (W : Nat) (p : Nat → Nat) (l : List Int) : ∀ r, min 7 (cntK W p (halve l) r) = cntK W p l r / 2
  | 0 => by simp only [cntK]; decide
  | r + 1 => by
    have h := cntK_halve W p l r
    simp only [cntK, halve_at]
    omega
theorem cnt_halve (W : Nat) (p : Nat → Nat) (l : List Int) (hb : ∀ r, r < 4 → l.getD (idx W p r) 0 ≤ 15) : cnt W p (halve l) = cnt W p l / 2 := by
  have h := cntK_halve W p l 4
  have h1 := cnt_cell W p (halve l) (show 0 < 4 by decide)
  rw [halve_at] at h1
  have h2 := hb 0 (by decide)
  unfold cnt at h1 ⊢
  omega
/-- What both count. -/
def mergeL (a b : List Int) : List Int := List.zipWith (fun x y => min 15 (x + y)) a b
theorem mergeL_at (a b : List Int) (h : a.length = b.length) (j : Nat) : (mergeL a b).getD j 0 = min 15 (a.getD j 0 + b.getD j 0) := by
  unfold mergeL
  rw [List.getD_eq_getElem?_getD, List.getD_eq_getElem?_getD, List.getD_eq_getElem?_getD, List.getElem?_zipWith]
  rcases Nat.lt_or_ge j a.length with hj | hj
  · rw [List.getElem?_eq_getElem hj, List.getElem?_eq_getElem (by omega)]; rfl
  · rw [List.getElem?_eq_none hj, List.getElem?_eq_none (by omega)]; rfl
theorem mergeL_len (a b : List Int) (h : a.length = b.length) : (mergeL a b).length = a.length := by unfold mergeL; simp [h]
theorem mergeL_comm (a b : List Int) : mergeL a b = mergeL b a := by
  unfold mergeL
  rw [List.zipWith_comm]
  congr 1
  funext x y
  rw [Int.add_comm]
theorem cnt_merge (W : Nat) (p : Nat → Nat) (a b : List Int) (h : a.length = b.length) : min (cnt W p a + cnt W p b) 15 ≤ cnt W p (mergeL a b) := by
  apply cnt_ge _ _ _ _ (by omega)
  intro r hr
  have h1 := cnt_cell W p a hr
  have h2 := cnt_cell W p b hr
  rw [mergeL_at a b h]
  omega
/-- How many are not 0. -/
def fill : List Int → Nat
  | [] => 0
  | x :: l => (if x = 0 then 0 else 1) + fill l
theorem fill_merge : ∀ (a b : List Int), a.length = b.length → fill (mergeL a b) ≤ fill a + fill b
  | [], [], _ => by simp [mergeL, fill]
  | x :: a, y :: b, h => by
    have ih := fill_merge a b (by simpa using h)
    have e : mergeL (x :: a) (y :: b) = min 15 (x + y) :: mergeL a b := rfl
    rw [e]
    simp only [fill]
    by_cases hx : x = 0 <;> by_cases hy : y = 0 <;> simp [hx, hy] <;> (try split) <;> omega
  | [], y :: b, h => by simp at h
  | x :: a, [], h => by simp at h
theorem fill_halve : ∀ l : List Int, (∀ x ∈ l, 0 ≤ x) → fill (halve l) ≤ fill l
  | [], _ => by simp [halve, fill]
  | x :: l, h => by
    have ih := fill_halve l fun y hy => h y (by simp [hy])
    have e : halve (x :: l) = x / 2 :: halve l := rfl
    have h0 := h x (by simp)
    rw [e]
    simp only [fill]
    by_cases hx : x = 0
    · simp [hx]; omega
    · simp [hx]; split <;> omega
end Go.Proofs.YtmmjkhamknfhpaaDoor
