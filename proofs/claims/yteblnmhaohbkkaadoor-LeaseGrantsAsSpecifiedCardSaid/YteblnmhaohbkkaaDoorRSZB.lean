/- Rings: add, rotate (PU, PV, B, M3, R, RR, RS in one text) -/
import Derived.Test.YteblnmhaohbkkaaDoorRG2
import Derived.Laws.OwnMore
namespace Go.Proofs.YteblnmhaohbkkaaDoor
set_option linter.unusedVariables false
set_option linter.unusedSimpArgs false
section
open Go.RowKit
/-- The list with x in its place. -/
def putL (l : List Rw) (p : Nat) (h : Bool) (x : Rw) : List Rw := if h = true then l.set p x else insL l p x
/-- What is built after k rounds. -/
def putK (l : List Rw) (p : Nat) (h : Bool) (x : Rw) (k : Nat) : List Rw := if k ≤ p then l.take k else (putL l p h x).take (if h = true then k else k + 1)
theorem putK_le {l : List Rw} {p k : Nat} {h : Bool} {x : Rw} (q : k ≤ p) : putK l p h x k = l.take k := if_pos q
theorem putK_gt {l : List Rw} {p k : Nat} {h : Bool} {x : Rw} (q : p < k) : putK l p h x k = (putL l p h x).take (if h = true then k else k + 1) := if_neg (by omega)
theorem take_one {α : Type} (l : List α) (k : Nat) (y : α) (h : l[k]? = some y) : l.take (k + 1) = l.take k ++ [y] := by
  have hk : k < l.length := (List.getElem?_eq_some_iff.1 h).1
  rw [List.take_succ_eq_append_getElem hk]
  congr 2
  rw [List.getElem?_eq_getElem hk] at h
  simpa using h
theorem getD_some {l : List Rw} {k : Nat} (hk : k < l.length) : l[k]? = some (l.getD k r0) := by rw [getEl hk]; exact List.getElem?_eq_getElem hk
theorem insL_past (l : List Rw) (p : Nat) (x : Rw) (k : Nat) (hp : p ≤ l.length) (hk : p ≤ k) : (insL l p x)[k + 1]? = l[k]? := by
  unfold insL
  rw [List.getElem?_append_right (by rw [List.length_take]; omega), List.length_take, Nat.min_eq_left hp, show k + 1 - p = (k - p) + 1 by omega, List.getElem?_cons_succ, List.getElem?_drop]
  congr 1
  omega
theorem putK_below (l : List Rw) (p : Nat) (h : Bool) (x : Rw) (k : Nat) (hk : k < p) (hl : k < l.length) : putK l p h x (k + 1) = putK l p h x k ++ [l.getD k r0] := by
  rw [putK_le (show k + 1 ≤ p by omega), putK_le (show k ≤ p by omega), take_one _ _ _ (getD_some hl)]
theorem putK_above (l : List Rw) (p : Nat) (h : Bool) (x : Rw) (k : Nat) (hk : p < k) (hl : k < l.length) : putK l p h x (k + 1) = putK l p h x k ++ [l.getD k r0] := by
  rw [putK_gt (show p < k + 1 by omega), putK_gt hk]
  unfold putL
  cases h
  · simp only [Bool.false_eq_true, if_false]
    rw [take_one _ (k + 1) (l.getD k r0) (by rw [insL_past _ _ _ _ (by omega) (by omega)]; exact getD_some hl)]
  · simp only [if_true]
    rw [take_one _ k (l.getD k r0) (by rw [List.getElem?_set_ne (by omega)]; exact getD_some hl)]
theorem putK_len (l : List Rw) (p : Nat) (h : Bool) (x : Rw) (k : Nat) (hk : k ≤ l.length) : (putK l p h x k).length ≤ k + 1 := by
  unfold putK
  split
  · rw [List.length_take]; omega
  · rw [List.length_take]; split <;> omega
section
variable {α : Type} {P : Program}
end
end
section
open Go.RowKit Go.Sort
end
section
open Go.RowKit Go.Sort
def RowsS (L : List Rw × Int) (w : World) (e : Ending) : Prop := ∃ a' c', e = .returned (.agg #[.slice a' L.1.length c', .int .i64 L.2]) ∧ RwA w a' L.1
theorem RowsS.nil (n : Int) (w : World) : RowsS ([], n) w (.returned (.agg #[.slice Option.none 0 0, .int .i64 n])) := ⟨Option.none, 0, rfl, RowsA.nil _ _ _ _⟩
end
section
open Go.RowKit
theorem flat_set : ∀ (l : List Rw) (i j : Nat) (u : Value) (x : Rw), i < l.length → j < 5 → encR x = (encR (l.getD i r0)).set j u → (l.flatMap encR).set (i * 5 + j) u = (l.set i x).flatMap encR
  | [], i, j, u, x, h, _, _ => absurd h (by simp)
  | a :: l, 0, j, u, x, _, hj, h => by
    simp only [List.flatMap_cons, List.set_cons_zero, List.getD_cons_zero] at h ⊢
    rw [Nat.zero_mul, Nat.zero_add, List.set_append_left _ _ (by rw [encR_len]; exact hj), h]
  | a :: l, i + 1, j, u, x, hi, hj, h => by
    simp only [List.flatMap_cons, List.set_cons_succ, List.getD_cons_succ] at h ⊢
    rw [List.set_append_right _ _ (by rw [encR_len]; omega), encR_len, show (i + 1) * 5 + j - 5 = i * 5 + j by omega, flat_set l i j u x (by simpa using hi) hj h]
section
variable {W : World} {e B n cap : Nat} {a : Option Addr} {l : List Rw}
theorem own_at (h : OwnR e 5 encR W B (.slice a n cap) l) {i : Nat} (hi : i < l.length) :
    ∃ g, a = some ⟨g, 0, none⟩ ∧ n = l.length ∧ B ≤ g ∧ W.cell? ⟨g, i * 5, none⟩ = some (.int .i64 (l.getD i r0).1) ∧ W.cell? ⟨g, i * 5 + 1, none⟩ = some (.int .i64 (l.getD i r0).2.1) ∧ W.cell? ⟨g, i * 5 + 2, none⟩ = some (.string (l.getD i r0).2.2.1) ∧
      W.cell? ⟨g, i * 5 + 3, none⟩ = some (.int .i64 (l.getD i r0).2.2.2.1) ∧ W.cell? ⟨g, i * 5 + 4, none⟩ = some (.int .i64 (l.getD i r0).2.2.2.2) ∧ ∀ j, W.frozen? ⟨g, j, none⟩ = false := by
  rcases h.2 with ⟨-, h1⟩ | ⟨g, cap', cur, e', hB, hg, -⟩
  · rw [h1] at hi; simp at hi
  · injection e' with e1 e2 e3
    subst e1; subst e2; subst e3
    have hx : l[i]? = some (l.getD i r0) := by rw [List.getElem?_eq_getElem hi, getD_at r0 hi]
    have at_ : ∀ j, j < 5 → W.cell? ⟨g, i * 5 + j, none⟩ = (encR (l.getD i r0))[j]? := fun j hj => by
      rw [World.ownsRow.cellAt h (i * 5 + j) (by omega), flat_at encR_len l i j hj, hx]; rfl
    exact ⟨g, rfl, rfl, hB, at_ 0 (by decide), at_ 1 (by decide), at_ 2 (by decide), at_ 3 (by decide), at_ 4 (by decide), fun j => h.frozenAt j⟩
theorem own_set {g : Nat} (h : OwnR e 5 encR W B (.slice (some ⟨g, 0, none⟩) n cap) l) {i j : Nat} (hi : i < l.length) (hj : j < 5) (u : Value) (x : Rw) (hx : encR x = (encR (l.getD i r0)).set j u) :
    OwnR e 5 encR (W.setCell ⟨g, i * 5 + j, none⟩ u) B (.slice (some ⟨g, 0, none⟩) n cap) (l.set i x) := by
  have hn : n = l.length := by
    rcases h.2 with ⟨h', _⟩ | ⟨g', cap', cur, h', _⟩
    · simp at h'
    · injection h'
  subst hn
  have := (World.ownsRow.stored h (i * 5 + j) u).1
  unfold OwnR
  rw [← flat_set l i j u x hi hj hx, List.length_set]
  exact this
end
theorem getD_set_ne (l : List Rw) (i j : Nat) (x : Rw) (h : i ≠ j) : (l.set i x).getD j r0 = l.getD j r0 := by
  rw [List.getD_eq_getElem?_getD, List.getElem?_set_ne h, ← List.getD_eq_getElem?_getD]
/-- The place of the last key of a party, or -1. -/
def lastK (l : List Rw) (p : Int) : Nat → Int
  | 0 => -1
  | k + 1 => if (l.getD k r0).1 = p then k else lastK l p k
def lastL (l : List Rw) (p : Int) : Int := lastK l p l.length
def argBad (x : Rw) (at_ ov : Int) : Prop := at_ < 0 ∨ 1099511627776 < at_ ∨ ov < 0 ∨ 1099511627776 < ov ∨ ¬ keyOk x
instance (x : Rw) (a b : Int) : Decidable (argBad x a b) := by unfold argBad; infer_instance
def rotL (l : List Rw) (p : Int) (s : ByteArray) (at_ ov : Int) : List Rw × Int :=
  if lastL l p < 0 then ([], 5)
  else if argBad (p, (l.getD (lastL l p).toNat r0).2.1 + 1, s, at_, 1099511627776) at_ ov then ([], 1)
  else if at_ + ov ≤ (l.getD (lastL l p).toNat r0).2.2.2.1 ∨ (l.getD (lastL l p).toNat r0).2.2.2.2 < at_ then ([], 9)
  else if 1000 ≤ l.length then ([], 2)
  else (insL (l.set (lastL l p).toNat ((l.getD (lastL l p).toNat r0).1, (l.getD (lastL l p).toNat r0).2.1, (l.getD (lastL l p).toNat r0).2.2.1, (l.getD (lastL l p).toNat r0).2.2.2.1, min (l.getD (lastL l p).toNat r0).2.2.2.2 (at_ + ov))) ((lastL l p).toNat + 1) (p, (l.getD (lastL l p).toNat r0).2.1 + 1, s, at_, 1099511627776), 0)
end
section
open Go.RowKit Go.Sort
end
section
open Go.RowKit Go.Sort
end
section
open Go.RowKit Go.Sort
end
end Go.Proofs.YteblnmhaohbkkaaDoor
