import Derived.Test.YtcgdhankllphgaaRF
import Derived.Test.YtcgdhankllphgaaRY3
import Derived.Laws.OwnMore
namespace Go.Proofs.Ytcgdhankllphgaa
set_option linter.unusedVariables false
set_option linter.unusedSimpArgs false
set_option linter.unusedSectionVars false
open Go.RowKit
theorem flat_set : ∀ (l : List Rw) (i j : Nat) (u : Value) (x : Rw), i < l.length → j < 4 → encR x = (encR (l.getD i r0)).set j u → (l.flatMap encR).set (i * 4 + j) u = (l.set i x).flatMap encR
  | [], i, j, u, x, h, _, _ => absurd h (by simp)
  | a :: l, 0, j, u, x, _, hj, h => by
    simp only [List.flatMap_cons, List.set_cons_zero, List.getD_cons_zero] at h ⊢
    rw [Nat.zero_mul, Nat.zero_add, List.set_append_left _ _ (by rw [encR_len]; exact hj), h]
  | a :: l, i + 1, j, u, x, hi, hj, h => by
    simp only [List.flatMap_cons, List.set_cons_succ, List.getD_cons_succ] at h ⊢
    rw [List.set_append_right _ _ (by rw [encR_len]; omega), encR_len, show (i + 1) * 4 + j - 4 = i * 4 + j by omega, flat_set l i j u x (by simpa using hi) hj h]
section
variable {W : World} {e B n cap : Nat} {a : Option Addr} {l : List Rw}
theorem own_at (h : OwnR e 4 encR W B (.slice a n cap) l) {i : Nat} (hi : i < l.length) :
    ∃ g, a = some ⟨g, 0, none⟩ ∧ n = l.length ∧ B ≤ g ∧ W.cell? ⟨g, i * 4, none⟩ = some (.int .i64 (l.getD i r0).1) ∧ W.cell? ⟨g, i * 4 + 1, none⟩ = some (.int .i64 (l.getD i r0).2.1) ∧ W.cell? ⟨g, i * 4 + 2, none⟩ = some (.int .i64 (l.getD i r0).2.2.1) ∧
      W.cell? ⟨g, i * 4 + 3, none⟩ = some (.int .i64 (l.getD i r0).2.2.2) ∧ ∀ j, W.frozen? ⟨g, j, none⟩ = false := by
  rcases h.2 with ⟨-, h1⟩ | ⟨g, cap', cur, e', hB, hg, -⟩
  · rw [h1] at hi; simp at hi
  · injection e' with e1 e2 e3
    subst e1; subst e2; subst e3
    have hx : l[i]? = some (l.getD i r0) := by rw [List.getElem?_eq_getElem hi, getD_at r0 hi]
    have at_ : ∀ j, j < 4 → W.cell? ⟨g, i * 4 + j, none⟩ = (encR (l.getD i r0))[j]? := fun j hj => by
      rw [World.ownsRow.cellAt h (i * 4 + j) (by omega), flat_at encR_len l i j hj, hx]; rfl
    exact ⟨g, rfl, rfl, hB, at_ 0 (by decide), at_ 1 (by decide), at_ 2 (by decide), at_ 3 (by decide), fun j => h.frozenAt j⟩
theorem own_set {g : Nat} (h : OwnR e 4 encR W B (.slice (some ⟨g, 0, none⟩) n cap) l) {i j : Nat} (hi : i < l.length) (hj : j < 4) (u : Value) (x : Rw) (hx : encR x = (encR (l.getD i r0)).set j u) :
    OwnR e 4 encR (W.setCell ⟨g, i * 4 + j, none⟩ u) B (.slice (some ⟨g, 0, none⟩) n cap) (l.set i x) := by
  have hn : n = l.length := by
    rcases h.2 with ⟨h', _⟩ | ⟨g', cap', cur, h', _⟩
    · simp at h'
    · injection h'
  subst hn
  have := (World.ownsRow.stored h (i * 4 + j) u).1
  unfold OwnR
  rw [← flat_set l i j u x hi hj hx, List.length_set]
  exact this
end
theorem getD_insL (l : List Rw) (i : Nat) (x : Rw) (hi : i ≤ l.length) : (insL l i x).getD i r0 = x := by
  unfold insL
  rw [List.getD_eq_getElem?_getD, List.getElem?_append_right (by simp; omega), List.length_take, Nat.min_eq_left hi, Nat.sub_self]
  rfl
theorem set_insL (l : List Rw) (i : Nat) (x y : Rw) (hi : i ≤ l.length) : (insL l i x).set i y = insL l i y := by
  unfold insL
  rw [List.set_append_right _ _ (by simp; omega), List.length_take, Nat.min_eq_left hi, Nat.sub_self]
  rfl
abbrev set3 (X : World) (o : Nat) (u0 u1 u2 : Value) : World := ((X.setCell ⟨o, 0, none⟩ u0).setCell ⟨o, 1, none⟩ u1).setCell ⟨o, 2, none⟩ u2
section
variable {X w : World} {B o g : Nat} {t : TypeId} {a0 a1 a2 : Value} {cs : Array Value}
theorem Blk.set3 (h : Blk X o t #[a0, a1, a2]) (u0 u1 u2 : Value) : Blk (set3 X o u0 u1 u2) o t #[u0, u1, u2] := ((h.set_ 0 u0).set_ 1 u1).set_ 2 u2
theorem below_set3 (h : Below B w X) (hn : B ≤ o) (u0 u1 u2 : Value) : Below B w (Go.Proofs.Ytcgdhankllphgaa.set3 X o u0 u1 u2) := ((h.setCell hn u0).setCell hn u1).setCell hn u2
theorem own_far3 {e n' : Nat} {v : Value} {l : List Rw} (h : OwnR e n' encR X B v l) (hn : o < B) (u0 u1 u2 : Value) : OwnR e n' encR (Go.Proofs.Ytcgdhankllphgaa.set3 X o u0 u1 u2) B v l := OwnR.far (OwnR.far (OwnR.far h (p := ⟨o, 0, none⟩) hn u0) (p := ⟨o, 1, none⟩) hn u1) (p := ⟨o, 2, none⟩) hn u2
end
end Go.Proofs.Ytcgdhankllphgaa
