/- Mathematics of victims. -/
import Derived.Test.YtjmegfejnocegaaM3
namespace Go.Proofs.Ytjmegfejnocegaa
set_option linter.unusedVariables false
set_option linter.unusedSimpArgs false
/-- The shares of accounts, of which the one at place p uses m more. -/
def wantsL (l : List Ac) (p : Nat) (m : Int) : List Sh := (List.range l.length).map fun i => ((l.getD i (0, 0, 0)).2.1, if i = p then min ((l.getD i (0, 0, 0)).2.2 + m) 1099511627776 else (l.getD i (0, 0, 0)).2.2)
theorem wantsL_len (l : List Ac) (p : Nat) (m : Int) : (wantsL l p m).length = l.length := by simp [wantsL]
theorem wantsL_at (l : List Ac) (p : Nat) (m : Int) (i : Nat) (h : i < l.length) : (wantsL l p m).getD i (0, 0) = ((l.getD i (0, 0, 0)).2.1, if i = p then min ((l.getD i (0, 0, 0)).2.2 + m) 1099511627776 else (l.getD i (0, 0, 0)).2.2) := by
  unfold wantsL
  rw [List.getD_eq_getElem?_getD, List.getElem?_map, List.getElem?_range h]
  rfl
theorem wantsL_ok {l : List Ac} (h : OkA l) (p : Nat) (m : Int) (hm : 0 ≤ m) : OkS (wantsL l p m) := by
  intro s hs
  obtain ⟨i, hi, rfl⟩ := List.getElem_of_mem hs
  rw [wantsL_len] at hi
  rw [← getD_at (0, 0) (by rw [wantsL_len]; exact hi), wantsL_at l p m i hi]
  obtain ⟨a, b, c, d⟩ := h.w hi
  unfold okS; simp only
  refine ⟨a, b, ?_⟩
  split <;> omega
/-- The victim among the first k, and how much it has beyond. -/
def bestK (l : List Ac) (gs : List Int) (p : Nat) : Nat → Int × Int
  | 0 => (0, 0)
  | k + 1 => if k ≠ p ∧ (bestK l gs p k).2 < (l.getD k (0, 0, 0)).2.2 - gs.getD k 0 then ((l.getD k (0, 0, 0)).1, (l.getD k (0, 0, 0)).2.2 - gs.getD k 0) else bestK l gs p k
theorem bestK_own (l : List Ac) (gs : List Int) (p : Nat) : bestK l gs p (p + 1) = bestK l gs p p := by
  show (if _ then _ else _) = _
  rw [if_neg (by omega)]
/-- What Victim says before it divides. -/
def earlyV (c : Int) (l : List Ac) (x m : Int) : Option (Int × Int) :=
  if hasA l x = true then (if m < 0 ∨ 1099511627776 < m then some (0, 1) else if used l + m ≤ c then some (0, 0) else none) else some (0, 5)
/-- What it says when all is divided. -/
def lateV (l : List Ac) (gs : List Int) (p : Nat) (m : Int) : Int × Int :=
  if gs.getD p 0 < (l.getD p (0, 0, 0)).2.2 + m then (0, 160) else ((bestK l gs p l.length).1, 0)
/-- A tenant and an error are what Victim has to return. -/
def VictR (c : Int) (l : List Ac) (x m : Int) (r : Int × Int) : Prop :=
  match earlyV c l x m with
  | some q => r = q
  | none => ∃ n, IsLev c (wantsL l (posA l x) m) n ∧ r = lateV l (fairC c n (wantsL l (posA l x) m)) (posA l x) m
theorem earlyV_none {c : Int} {l : List Ac} {x m : Int} (h : earlyV c l x m = none) : hasA l x = true ∧ 0 ≤ m ∧ m ≤ 1099511627776 ∧ c < used l + m := by
  unfold earlyV at h
  split at h
  · rename_i h1
    split at h
    · cases h
    · split at h
      · cases h
      · exact ⟨h1, by omega, by omega, by omega⟩
  · cases h
theorem VictR.uniq {c : Int} {l : List Ac} {x m : Int} {r q : Int × Int} (hl : OkA l) (h : VictR c l x m r) (k : VictR c l x m q) : r = q := by
  unfold VictR at h k
  cases he : earlyV c l x m with
  | some s => rw [he] at h k; simp only at h k; rw [h, k]
  | none =>
    rw [he] at h k; simp only at h k
    obtain ⟨n, h1, h2⟩ := h
    obtain ⟨n', k1, k2⟩ := k
    obtain rfl := h1.uniq (wantsL_ok hl _ _ (earlyV_none he).2.1) k1
    rw [h2, k2]
theorem VictR.early {c : Int} {l : List Ac} {x m : Int} {q : Int × Int} (h : earlyV c l x m = some q) : VictR c l x m q := by unfold VictR; rw [h]
theorem VictR.late {c : Int} {l : List Ac} {x m n : Int} (h : earlyV c l x m = none) (hn : IsLev c (wantsL l (posA l x) m) n) : VictR c l x m (lateV l (fairC c n (wantsL l (posA l x) m)) (posA l x) m) := by unfold VictR; rw [h]; exact ⟨n, hn, rfl⟩
theorem early_5 {c : Int} {l : List Ac} {x m : Int} (h : ¬ hasA l x = true) : earlyV c l x m = some (0, 5) := by unfold earlyV; rw [if_neg h]
theorem early_1 {c : Int} {l : List Ac} {x m : Int} (h : hasA l x = true) (h2 : m < 0 ∨ 1099511627776 < m) : earlyV c l x m = some (0, 1) := by unfold earlyV; rw [if_pos h, if_pos h2]
theorem early_0 {c : Int} {l : List Ac} {x m : Int} (h : hasA l x = true) (h2 : ¬ (m < 0 ∨ 1099511627776 < m)) (h3 : used l + m ≤ c) : earlyV c l x m = some (0, 0) := by unfold earlyV; rw [if_pos h, if_neg h2, if_pos h3]
theorem early_n {c : Int} {l : List Ac} {x m : Int} (h : hasA l x = true) (h2 : ¬ (m < 0 ∨ 1099511627776 < m)) (h3 : ¬ used l + m ≤ c) : earlyV c l x m = none := by unfold earlyV; rw [if_pos h, if_neg h2, if_neg h3]
/-- The shares of the first k accounts, and zeros. -/
def shK (l : List Ac) (k : Nat) : List Sh := (List.range l.length).map fun i => if i < k then ((l.getD i (0, 0, 0)).2.1, (l.getD i (0, 0, 0)).2.2) else (0, 0)
theorem shK_len (l : List Ac) (k : Nat) : (shK l k).length = l.length := by simp [shK]
theorem shK_zero (l : List Ac) : shK l 0 = List.replicate l.length (0, 0) := by
  refine List.ext_getElem (by simp [shK]) fun i h1 h2 => ?_
  simp [shK]
theorem shK_at (l : List Ac) (k i : Nat) (h : i < (shK l k).length) : (shK l k)[i] = if i < k then ((l.getD i (0, 0, 0)).2.1, (l.getD i (0, 0, 0)).2.2) else (0, 0) := by simp [shK]
theorem wantsL_get (l : List Ac) (p : Nat) (m : Int) (i : Nat) (h : i < (wantsL l p m).length) : (wantsL l p m)[i] = ((l.getD i (0, 0, 0)).2.1, if i = p then min ((l.getD i (0, 0, 0)).2.2 + m) 1099511627776 else (l.getD i (0, 0, 0)).2.2) := by simp [wantsL]
theorem shK_set (l : List Ac) (k : Nat) (h : k < l.length) : (shK l k).set k ((l.getD k (0, 0, 0)).2.1, (l.getD k (0, 0, 0)).2.2) = shK l (k + 1) := by
  refine List.ext_getElem (by simp [shK]) fun i h1 h2 => ?_
  rw [List.getElem_set, shK_at, shK_at]
  split
  · rename_i e; subst e; rw [if_pos (by omega)]
  · by_cases hik : i < k
    · rw [if_pos hik, if_pos (by omega)]
    · rw [if_neg hik, if_neg (by omega)]
theorem shK_wants (l : List Ac) (p : Nat) (m : Int) (h : p < l.length) : (shK l l.length).set p (((shK l l.length).getD p (0, 0)).1, min ((l.getD p (0, 0, 0)).2.2 + m) 1099511627776) = wantsL l p m := by
  have e : ((shK l l.length).getD p (0, 0)).1 = (l.getD p (0, 0, 0)).2.1 := by
    rw [getD_at (0, 0) (by rw [shK_len]; exact h), shK_at, if_pos h]
  rw [e]
  refine List.ext_getElem (by simp [shK, wantsL]) fun i h1 h2 => ?_
  have hi : i < l.length := by rw [wantsL_len] at h2; exact h2
  rw [List.getElem_set, shK_at, wantsL_get]
  by_cases e : p = i
  · subst e; rw [if_pos rfl, if_pos rfl]
  · rw [if_neg e, if_pos hi, if_neg (show ¬ i = p from fun q => e q.symm)]
end Go.Proofs.Ytjmegfejnocegaa
