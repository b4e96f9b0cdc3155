/- Mathematics of fair shares: lists of pairs (weight, want). Nothing of the program. -/
import Derived.RowKit3
namespace Go.Proofs.Ytjmegfejnocegaa
set_option linter.unusedVariables false
set_option linter.unusedSimpArgs false
def sumF {α : Type} (f : α → Int) : List α → Int
  | [] => 0
  | x :: l => f x + sumF f l
theorem sumF_take {α : Type} (f : α → Int) (l : List α) (k : Nat) (d : α) (h : k < l.length) : sumF f (l.take (k + 1)) = sumF f (l.take k) + f (l.getD k d) := by
  induction l generalizing k with
  | nil => simp at h
  | cons x l ih =>
    cases k with
    | zero => simp [sumF]
    | succ k =>
      have := ih k (by simpa using h)
      simp only [List.take_succ_cons, sumF, List.getD_cons_succ]
      omega
theorem sumF_append {α : Type} (f : α → Int) (a b : List α) : sumF f (a ++ b) = sumF f a + sumF f b := by
  induction a with
  | nil => simp [sumF]
  | cons x a ih => simp only [List.cons_append, sumF, ih]; omega
theorem sumF_le {α : Type} (f g : α → Int) : ∀ l : List α, (∀ x ∈ l, f x ≤ g x) → sumF f l ≤ sumF g l
  | [], _ => by simp [sumF]
  | x :: l, h => by
    have := sumF_le f g l (fun y hy => h y (List.mem_cons_of_mem _ hy))
    have := h x (by simp)
    simp only [sumF]; omega
theorem sumF_bound {α : Type} (f : α → Int) (B : Int) : ∀ l : List α, (∀ x ∈ l, 0 ≤ f x ∧ f x ≤ B) → 0 ≤ sumF f l ∧ sumF f l ≤ B * l.length
  | [], _ => by simp [sumF]
  | x :: l, h => by
    have h1 := sumF_bound f B l (fun y hy => h y (List.mem_cons_of_mem _ hy))
    have h2 := h x (by simp)
    have e : B * ((x :: l).length : Int) = B * (l.length : Int) + B := by rw [List.length_cons, Int.natCast_add, Int.mul_add]; simp
    simp only [sumF]; omega
theorem sumF_mem {α : Type} (f : α → Int) : ∀ l : List α, (∀ x ∈ l, 0 ≤ f x) → ∀ x ∈ l, f x ≤ sumF f l
  | [], _, x, hx => by simp at hx
  | y :: l, h, x, hx => by
    have h0 : 0 ≤ sumF f l := by
      have := sumF_le (fun _ => 0) f l (fun z hz => h z (List.mem_cons_of_mem _ hz))
      have e : ∀ m : List α, sumF (fun _ => 0) m = 0 := by intro m; induction m with | nil => rfl | cons a m ih => simp [sumF, ih]
      rw [e] at this; exact this
    have hy := h y (by simp)
    rcases List.mem_cons.1 hx with rfl | hx
    · simp only [sumF]; omega
    · have := sumF_mem f l (fun z hz => h z (List.mem_cons_of_mem _ hz)) x hx
      simp only [sumF]; omega
theorem sumF_mul {α : Type} (f : α → Int) (q : Int) : ∀ l : List α, sumF (fun x => q * f x) l = q * sumF f l
  | [] => by simp [sumF]
  | x :: l => by simp only [sumF, sumF_mul f q l, Int.mul_add]
abbrev Sh := Int × Int
def okS (s : Sh) : Prop := 1 ≤ s.1 ∧ s.1 ≤ 1048576 ∧ 0 ≤ s.2 ∧ s.2 ≤ 1099511627776
instance (s : Sh) : Decidable (okS s) := by unfold okS; infer_instance
def OkS (l : List Sh) : Prop := ∀ s ∈ l, okS s
theorem OkS.at_ {l : List Sh} (h : OkS l) {k : Nat} (hk : k < l.length) : okS (l.getD k (0, 0)) := by
  rw [List.getD_eq_getElem?_getD, List.getElem?_eq_getElem hk]; exact h _ (List.getElem_mem _)
theorem OkS.take {l : List Sh} (h : OkS l) (k : Nat) : OkS (l.take k) := fun s hs => h s (List.mem_of_mem_take hs)
def atL (n : Int) (s : Sh) : Int := min (n * s.1) s.2
def allL (n : Int) (l : List Sh) : Int := sumF (atL n) l
def wants (l : List Sh) : Int := sumF (fun s => s.2) l
def weights (l : List Sh) : Int := sumF (fun s => s.1) l
theorem prod_bd (n : Int) (s : Sh) (h : okS s) (h0 : 0 ≤ n) (h1 : n ≤ 1099511627777) : 0 ≤ n * s.1 ∧ n * s.1 ≤ 1152921504607895552 := by
  obtain ⟨a, b, -, -⟩ := h
  exact ⟨Int.mul_nonneg h0 (by omega), Int.le_trans (Int.mul_le_mul h1 b (by omega) (by omega)) (by decide)⟩
theorem atL_bd (n : Int) (s : Sh) (h : okS s) (h0 : 0 ≤ n) : 0 ≤ atL n s ∧ atL n s ≤ s.2 := by
  have := Int.mul_nonneg h0 (show 0 ≤ s.1 by have := h.1; omega)
  have := h.2.2.1
  unfold atL; omega
theorem atL_mono (n m : Int) (s : Sh) (h : okS s) (hn : n ≤ m) : atL n s ≤ atL m s := by
  have := Int.mul_le_mul_of_nonneg_right hn (show 0 ≤ s.1 by have := h.1; omega)
  unfold atL; omega
theorem allL_mono (n m : Int) (l : List Sh) (h : OkS l) (hn : n ≤ m) : allL n l ≤ allL m l := sumF_le _ _ l fun s hs => atL_mono n m s (h s hs) hn
theorem allL_bd (n : Int) (l : List Sh) (h : OkS l) (h0 : 0 ≤ n) : 0 ≤ allL n l ∧ allL n l ≤ 1099511627776 * l.length :=
  sumF_bound _ _ l fun s hs => ⟨(atL_bd n s (h s hs) h0).1, Int.le_trans (atL_bd n s (h s hs) h0).2 (h s hs).2.2.2⟩
theorem allL_take (n : Int) (l : List Sh) (k : Nat) (h : k < l.length) : allL n (l.take (k + 1)) = allL n (l.take k) + atL n (l.getD k (0, 0)) := sumF_take _ l k _ h
theorem allL_zero (l : List Sh) (h : OkS l) : allL 0 l = 0 := by
  have h1 := sumF_le (atL 0) (fun _ => 0) l (fun s hs => by have := (h s hs).2.2.1; unfold atL; omega)
  have h2 := (allL_bd 0 l h (by omega)).1
  have e : ∀ m : List Sh, sumF (fun _ => 0) m = 0 := by intro m; induction m with | nil => rfl | cons a m ih => simp [sumF, ih]
  rw [e] at h1
  unfold allL at *; omega
/-- The greatest level within a capacity. -/
def IsLev (c : Int) (l : List Sh) (n : Int) : Prop := 0 ≤ n ∧ n ≤ 1099511627776 ∧ allL n l ≤ c ∧ (n = 1099511627776 ∨ c < allL (n + 1) l)
theorem IsLev.uniq {c : Int} {l : List Sh} {n m : Int} (hl : OkS l) (h : IsLev c l n) (k : IsLev c l m) : n = m := by
  obtain ⟨a1, a2, a3, a4⟩ := h
  obtain ⟨b1, b2, b3, b4⟩ := k
  rcases Int.lt_trichotomy n m with h | h | h
  · have := allL_mono (n + 1) m l hl (by omega); omega
  · exact h
  · have := allL_mono (m + 1) n l hl (by omega); omega
theorem IsLev.mono {c d : Int} {l : List Sh} {n m : Int} (hl : OkS l) (h : IsLev c l n) (k : IsLev d l m) (hcd : c ≤ d) : n ≤ m := by
  obtain ⟨a1, a2, a3, a4⟩ := h
  obtain ⟨b1, b2, b3, b4⟩ := k
  rcases Int.lt_or_le m n with h | h
  · have := allL_mono (m + 1) n l hl (by omega); omega
  · exact h
/-- What each share gets, from what is left. -/
def fairL (n : Int) : Int → List Sh → List Int
  | _, [] => []
  | r, s :: l => (atL n s + min r (min s.1 (s.2 - atL n s))) :: fairL n (r - min r (min s.1 (s.2 - atL n s))) l
theorem fairL_len (n r : Int) (l : List Sh) : (fairL n r l).length = l.length := by
  induction l generalizing r with
  | nil => rfl
  | cons s l ih => simp [fairL, ih]
/-- What is left behind the first ones. -/
def leftL (n : Int) : Int → List Sh → Int
  | r, [] => r
  | r, s :: l => leftL n (r - min r (min s.1 (s.2 - atL n s))) l
theorem leftL_snoc (n r : Int) (l : List Sh) (s : Sh) : leftL n r (l ++ [s]) = leftL n r l - min (leftL n r l) (min s.1 (s.2 - atL n s)) := by
  induction l generalizing r with
  | nil => rfl
  | cons x l ih => simp only [List.cons_append, leftL, ih]
theorem fairL_snoc (n r : Int) (l : List Sh) (s : Sh) : fairL n r (l ++ [s]) = fairL n r l ++ [atL n s + min (leftL n r l) (min s.1 (s.2 - atL n s))] := by
  induction l generalizing r with
  | nil => rfl
  | cons x l ih => simp only [List.cons_append, fairL, leftL, ih]
theorem take_snoc (l : List Sh) (k : Nat) (h : k < l.length) : l.take (k + 1) = l.take k ++ [l.getD k (0, 0)] := by
  rw [List.take_succ_eq_append_getElem h, List.getD_eq_getElem?_getD, List.getElem?_eq_getElem h]; rfl
theorem leftL_bd (n r : Int) (l : List Sh) (hl : OkS l) (h0 : 0 ≤ n) (hr : 0 ≤ r) : 0 ≤ leftL n r l ∧ leftL n r l ≤ r := by
  induction l generalizing r with
  | nil => exact ⟨hr, Int.le_refl _⟩
  | cons s l ih =>
    have a := atL_bd n s (hl s (by simp)) h0
    have b := (hl s (by simp)).1
    have := ih (r - min r (min s.1 (s.2 - atL n s))) (fun x hx => hl x (List.mem_cons_of_mem _ hx)) (by omega)
    simp only [leftL]; omega
/-- What a share has lies between two levels. -/
theorem fairL_at (n r : Int) (l : List Sh) (hl : OkS l) (h0 : 0 ≤ n) (hr : 0 ≤ r) (k : Nat) (hk : k < l.length) :
    atL n (l.getD k (0, 0)) ≤ (fairL n r l).getD k 0 ∧ (fairL n r l).getD k 0 ≤ atL (n + 1) (l.getD k (0, 0)) := by
  induction l generalizing r k with
  | nil => simp at hk
  | cons s l ih =>
    have a := atL_bd n s (hl s (by simp)) h0
    have b := hl s (by simp)
    have e : (n + 1) * s.1 = n * s.1 + s.1 := by rw [Int.add_mul]; omega
    cases k with
    | zero =>
      simp only [fairL, List.getD_cons_zero]
      obtain ⟨b1, b2, b3, b4⟩ := b
      unfold atL at *; rw [e]; omega
    | succ k =>
      simp only [fairL, List.getD_cons_succ]
      exact ih _ (fun x hx => hl x (List.mem_cons_of_mem _ hx)) (by have := b.1; omega) k (by simpa using hk)
theorem fairL_le (n r r' : Int) (l : List Sh) (hr : r ≤ r') (k : Nat) : (fairL n r l).getD k 0 ≤ (fairL n r' l).getD k 0 := by
  induction l generalizing r r' k with
  | nil => simp [fairL]
  | cons s l ih =>
    cases k with
    | zero => simp only [fairL, List.getD_cons_zero]; omega
    | succ k => simp only [fairL, List.getD_cons_succ]; exact ih _ _ (by omega) k
theorem fairL_sum (n r : Int) (l : List Sh) (hl : OkS l) (h0 : 0 ≤ n) (hr : 0 ≤ r) : sumF id (fairL n r l) = allL n l + min r (allL (n + 1) l - allL n l) := by
  induction l generalizing r with
  | nil => simp [fairL, sumF, allL]; omega
  | cons s l ih =>
    have a := atL_bd n s (hl s (by simp)) h0
    have b := hl s (by simp)
    have hl' : OkS l := fun x hx => hl x (List.mem_cons_of_mem _ hx)
    have m := allL_mono n (n + 1) l hl' (by omega)
    have e : (n + 1) * s.1 = n * s.1 + s.1 := by rw [Int.add_mul]; omega
    have f : atL (n + 1) s = atL n s + min s.1 (s.2 - atL n s) := by
      obtain ⟨b1, b2, b3, b4⟩ := b
      unfold atL at *; rw [e]; omega
    have i := ih (r - min r (min s.1 (s.2 - atL n s))) hl' (by have := b.1; omega)
    have g : allL n (s :: l) = atL n s + allL n l := rfl
    have g' : allL (n + 1) (s :: l) = atL (n + 1) s + allL (n + 1) l := rfl
    simp only [fairL, sumF, id, i, g, g', f]
    have := b.1
    omega
theorem allL_full (l : List Sh) (hl : OkS l) : allL 1099511627776 l = wants l := by
  have h1 := sumF_le (atL 1099511627776) (fun s => s.2) l (fun s hs => by unfold atL; omega)
  have h2 := sumF_le (fun s => s.2) (atL 1099511627776) l (fun s hs => by obtain ⟨b1, b2, b3, b4⟩ := hl s hs; unfold atL; omega)
  unfold allL wants; omega
theorem allL_wants (n : Int) (l : List Sh) : allL n l ≤ wants l := sumF_le _ _ l fun s _ => by unfold atL; omega
def fairC (c n : Int) (l : List Sh) : List Int := fairL n (c - allL n l) l
theorem fairC_sum (c n : Int) (l : List Sh) (hl : OkS l) (h : IsLev c l n) : sumF id (fairC c n l) = min c (wants l) := by
  obtain ⟨a1, a2, a3, a4⟩ := h
  unfold fairC
  rw [fairL_sum n _ l hl a1 (by omega)]
  have w1 := allL_wants (n + 1) l
  have m := allL_mono n (n + 1) l hl (by omega)
  rcases a4 with rfl | a4
  · have := allL_full l hl; omega
  · omega
theorem fairC_low (c n : Int) (l : List Sh) (hl : OkS l) (h : IsLev c l n) (k : Nat) (hk : k < l.length) : 0 ≤ (fairC c n l).getD k 0 ∧ (fairC c n l).getD k 0 ≤ (l.getD k (0, 0)).2 := by
  obtain ⟨a1, a2, a3, a4⟩ := h
  obtain ⟨h1, h2⟩ := fairL_at n (c - allL n l) l hl a1 (by omega) k hk
  have b := atL_bd n _ (hl.at_ hk) a1
  have b' := atL_bd (n + 1) _ (hl.at_ hk) (by omega)
  unfold fairC; omega
theorem fairC_level (c n : Int) (l : List Sh) (hl : OkS l) (h : IsLev c l n) (k : Nat) (hk : k < l.length) (hlt : (fairC c n l).getD k 0 < (l.getD k (0, 0)).2) : n * (l.getD k (0, 0)).1 ≤ (fairC c n l).getD k 0 := by
  obtain ⟨a1, a2, a3, a4⟩ := h
  obtain ⟨h1, h2⟩ := fairL_at n (c - allL n l) l hl a1 (by omega) k hk
  unfold fairC at *; unfold atL at *; omega
theorem fairC_up (c n : Int) (l : List Sh) (hl : OkS l) (h : IsLev c l n) (k : Nat) (hk : k < l.length) : (fairC c n l).getD k 0 ≤ (n + 1) * (l.getD k (0, 0)).1 := by
  obtain ⟨a1, a2, a3, a4⟩ := h
  obtain ⟨h1, h2⟩ := fairL_at n (c - allL n l) l hl a1 (by omega) k hk
  unfold fairC at *; unfold atL at *; omega
theorem weights_pos (l : List Sh) (hl : OkS l) (k : Nat) (hk : k < l.length) : 1 ≤ weights l := by
  have h1 := sumF_mem (fun s : Sh => s.1) l (fun s hs => by have := (hl s hs).1; omega) (l.getD k (0, 0)) (by rw [List.getD_eq_getElem?_getD, List.getElem?_eq_getElem hk]; exact List.getElem_mem _)
  have := (hl.at_ hk).1
  unfold weights; omega
theorem lev_part (c n : Int) (l : List Sh) (hl : OkS l) (h : IsLev c l n) (hc : 0 ≤ c) (hcM : c ≤ 1099511627776) (hw : 1 ≤ weights l) : c / weights l ≤ n := by
  obtain ⟨a1, a2, a3, a4⟩ := h
  rcases a4 with rfl | a4
  · exact Int.le_trans (Int.ediv_le_self _ hc) hcM
  · rcases Int.lt_or_le n (c / weights l) with h | h
    · exfalso
      have h1 := sumF_le (atL (n + 1)) (fun s : Sh => (n + 1) * s.1) l (fun s hs => by unfold atL; omega)
      have h1' : sumF (atL (n + 1)) l ≤ (n + 1) * sumF (fun s : Sh => s.1) l := by rw [← sumF_mul]; exact h1
      clear h1
      have h2 : (n + 1) * weights l ≤ c / weights l * weights l := Int.mul_le_mul_of_nonneg_right (by omega) (by omega)
      have h3 := Int.ediv_mul_le c (show weights l ≠ 0 by omega)
      unfold allL at a4; unfold weights at *; omega
    · exact h
theorem fairC_part (c n : Int) (l : List Sh) (hl : OkS l) (h : IsLev c l n) (hc : 0 ≤ c) (hcM : c ≤ 1099511627776) (k : Nat) (hk : k < l.length) (hlt : (fairC c n l).getD k 0 < (l.getD k (0, 0)).2) : (l.getD k (0, 0)).1 * (c / weights l) ≤ (fairC c n l).getD k 0 := by
  have h1 := fairC_level c n l hl h k hk hlt
  have h2 := lev_part c n l hl h hc hcM (weights_pos l hl k hk)
  have h3 := Int.mul_le_mul_of_nonneg_left h2 (show 0 ≤ (l.getD k (0, 0)).1 by have := (hl.at_ hk).1; omega)
  rw [Int.mul_comm] at h1; omega
theorem fairC_other (c n : Int) (l : List Sh) (hl : OkS l) (h : IsLev c l n) (i k : Nat) (hi : i < l.length) (hk : k < l.length) (hlt : (fairC c n l).getD i 0 < (l.getD i (0, 0)).2) :
    (fairC c n l).getD k 0 * (l.getD i (0, 0)).1 ≤ ((fairC c n l).getD i 0 + (l.getD i (0, 0)).1) * (l.getD k (0, 0)).1 := by
  have h1 := fairC_level c n l hl h i hi hlt
  have h2 := fairC_up c n l hl h k hk
  have wi := (hl.at_ hi).1
  have wk := (hl.at_ hk).1
  have g1 := Int.mul_le_mul_of_nonneg_right h2 (show 0 ≤ (l.getD i (0, 0)).1 by omega)
  have g2 := Int.mul_le_mul_of_nonneg_right (show (n + 1) * (l.getD i (0, 0)).1 ≤ (fairC c n l).getD i 0 + (l.getD i (0, 0)).1 by rw [Int.add_mul]; omega) (show 0 ≤ (l.getD k (0, 0)).1 by omega)
  refine Int.le_trans g1 (Int.le_trans (Int.le_of_eq ?_) g2)
  rw [Int.mul_assoc, Int.mul_assoc, Int.mul_comm (l.getD k (0, 0)).1]
theorem fairC_mono (c d n m : Int) (l : List Sh) (hl : OkS l) (h : IsLev c l n) (h' : IsLev d l m) (hcd : c ≤ d) (k : Nat) (hk : k < l.length) : (fairC c n l).getD k 0 ≤ (fairC d m l).getD k 0 := by
  have hnm := h.mono hl h' hcd
  rcases Int.lt_or_le n m with hlt | hge
  · have h2 := (fairL_at n (c - allL n l) l hl h.1 (by have := h.2.2.1; omega) k hk).2
    have h3 := (fairL_at m (d - allL m l) l hl h'.1 (by have := h'.2.2.1; omega) k hk).1
    have h4 := atL_mono (n + 1) m _ (hl.at_ hk) (by omega)
    unfold fairC; omega
  · obtain rfl : n = m := by omega
    exact fairL_le n _ _ l (by omega) k
/-- What the first k have, and zeros. -/
def ats (n : Int) (l : List Sh) (k : Nat) : List Int := (l.take k).map (atL n) ++ List.replicate (l.length - k) 0
theorem ats_zero (n : Int) (l : List Sh) : ats n l 0 = List.replicate l.length 0 := by simp [ats]
theorem ats_len (n : Int) (l : List Sh) (k : Nat) (h : k ≤ l.length) : (ats n l k).length = l.length := by simp [ats]; omega
theorem ats_set (n : Int) (l : List Sh) (k : Nat) (h : k < l.length) : (ats n l k).set k (atL n (l.getD k (0, 0))) = ats n l (k + 1) := by
  have e : l.length - k = (l.length - (k + 1)) + 1 := by omega
  unfold ats
  have hl : ((l.take k).map (atL n)).length = k := by simp; omega
  rw [List.set_append_right _ _ (by omega), hl, Nat.sub_self, e, List.replicate_succ, List.set_cons_zero, take_snoc l k h, List.map_append, List.append_assoc]
  rfl
theorem ats_at (n : Int) (l : List Sh) (k : Nat) (h : k < l.length) : (ats n l (k + 1)).getD k 0 = atL n (l.getD k (0, 0)) := by
  rw [← ats_set n l k h, List.getD_eq_getElem?_getD, List.getElem?_set_self (by rw [ats_len n l k (by omega)]; exact h)]
  rfl
/-- What the first k get, and what the others have at the level. -/
def fairK (n r : Int) (l : List Sh) (k : Nat) : List Int := fairL n r (l.take k) ++ (l.drop k).map (atL n)
theorem fairK_zero (n r : Int) (l : List Sh) : fairK n r l 0 = ats n l l.length := by simp [fairK, ats, fairL]
theorem fairK_all (n r : Int) (l : List Sh) : fairK n r l l.length = fairL n r l := by simp [fairK]
theorem fairK_len (n r : Int) (l : List Sh) (k : Nat) (h : k ≤ l.length) : (fairK n r l k).length = l.length := by simp [fairK, fairL_len]; omega
theorem fairK_at (n r : Int) (l : List Sh) (k : Nat) (h : k < l.length) : (fairK n r l k).getD k 0 = atL n (l.getD k (0, 0)) := by
  unfold fairK
  have hl : (fairL n r (l.take k)).length = k := by rw [fairL_len, List.length_take]; omega
  rw [List.getD_eq_getElem?_getD, List.getElem?_append_right (by omega), hl, Nat.sub_self, List.getElem?_map, List.getElem?_drop, Nat.add_zero, List.getElem?_eq_getElem h, List.getD_eq_getElem?_getD, List.getElem?_eq_getElem h]
  rfl
theorem fairK_set (n r : Int) (l : List Sh) (k : Nat) (h : k < l.length) :
    (fairK n r l k).set k (atL n (l.getD k (0, 0)) + min (leftL n r (l.take k)) (min (l.getD k (0, 0)).1 ((l.getD k (0, 0)).2 - atL n (l.getD k (0, 0))))) = fairK n r l (k + 1) := by
  unfold fairK
  have hl : (fairL n r (l.take k)).length = k := by rw [fairL_len, List.length_take]; omega
  rw [List.set_append_right _ _ (by omega), hl, Nat.sub_self, take_snoc l k h, fairL_snoc, List.append_assoc]
  rw [List.drop_eq_getElem_cons h, List.map_cons, List.set_cons_zero]
  rfl
end Go.Proofs.Ytjmegfejnocegaa
