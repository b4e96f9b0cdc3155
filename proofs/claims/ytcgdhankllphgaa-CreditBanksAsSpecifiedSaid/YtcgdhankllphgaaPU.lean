/- The reference's put and set: a list built one by one; mathematics, and an append of one row. -/
import Derived.Test.YtcgdhankllphgaaMP
import Derived.Test.YtcgdhankllphgaaRoH
import Derived.Test.YtcgdhankllphgaaCoH
namespace Go.Proofs.Ytcgdhankllphgaa
set_option linter.unusedVariables false
set_option linter.unusedSimpArgs false
open Go.RowKit
/-- The list with x in its place. -/
def putL (l : List Rw) (p : Nat) (h : Bool) (x : Rw) : List Rw := if h = true then l.set p x else insL l p x
/-- What is built after k rounds. -/
def putK (l : List Rw) (p : Nat) (h : Bool) (x : Rw) (k : Nat) : List Rw := if k ≤ p then l.take k else (putL l p h x).take (if h = true then k else k + 1)
theorem putK_le {l : List Rw} {p k : Nat} {h : Bool} {x : Rw} (q : k ≤ p) : putK l p h x k = l.take k := if_pos q
theorem putK_gt {l : List Rw} {p k : Nat} {h : Bool} {x : Rw} (q : p < k) : putK l p h x k = (putL l p h x).take (if h = true then k else k + 1) := if_neg (by omega)
theorem putK_zero (l : List Rw) (p : Nat) (h : Bool) (x : Rw) : putK l p h x 0 = [] := by simp [putK]
theorem take_one {α : Type} (l : List α) (k : Nat) (y : α) (h : l[k]? = some y) : l.take (k + 1) = l.take k ++ [y] := by
  have hk : k < l.length := (List.getElem?_eq_some_iff.1 h).1
  rw [List.take_succ_eq_append_getElem hk]
  congr 2
  rw [List.getElem?_eq_getElem hk] at h
  simpa using h
theorem getD_some {l : List Rw} {k : Nat} (hk : k < l.length) : l[k]? = some (l.getD k r0) := by rw [getEl hk]; exact List.getElem?_eq_getElem hk
theorem insL_at (l : List Rw) (p : Nat) (x : Rw) (hp : p ≤ l.length) : (insL l p x)[p]? = some x := by
  unfold insL
  rw [List.getElem?_append_right (by rw [List.length_take]; omega), List.length_take, Nat.min_eq_left hp, Nat.sub_self]
  rfl
theorem insL_past (l : List Rw) (p : Nat) (x : Rw) (k : Nat) (hp : p ≤ l.length) (hk : p ≤ k) : (insL l p x)[k + 1]? = l[k]? := by
  unfold insL
  rw [List.getElem?_append_right (by rw [List.length_take]; omega), List.length_take, Nat.min_eq_left hp, show k + 1 - p = (k - p) + 1 by omega, List.getElem?_cons_succ, List.getElem?_drop]
  congr 1
  omega
theorem putK_below (l : List Rw) (p : Nat) (h : Bool) (x : Rw) (k : Nat) (hk : k < p) (hl : k < l.length) : putK l p h x (k + 1) = putK l p h x k ++ [l.getD k r0] := by
  rw [putK_le (show k + 1 ≤ p by omega), putK_le (show k ≤ p by omega), take_one _ _ _ (getD_some hl)]
theorem putK_has (l : List Rw) (p : Nat) (x : Rw) (hl : p < l.length) : putK l p true x (p + 1) = putK l p true x p ++ [x] := by
  rw [putK_gt (show p < p + 1 by omega), putK_le (Nat.le_refl p)]
  unfold putL
  simp only [if_true]
  rw [take_one _ p x (by rw [List.getElem?_set_self hl])]
  congr 1
  rw [List.take_set, List.set_eq_of_length_le (by rw [List.length_take]; omega)]
theorem putK_not (l : List Rw) (p : Nat) (x : Rw) (hl : p < l.length) : putK l p false x (p + 1) = putK l p false x p ++ [x] ++ [l.getD p r0] := by
  rw [putK_gt (show p < p + 1 by omega), putK_le (Nat.le_refl p)]
  unfold putL
  simp only [Bool.false_eq_true, if_false]
  rw [take_one _ (p + 1) (l.getD p r0) (by rw [insL_past _ _ _ _ (by omega) (Nat.le_refl _)]; exact getD_some hl), take_one _ p x (insL_at _ _ _ (by omega))]
  congr 2
  unfold insL
  rw [List.take_left' (by rw [List.length_take]; omega)]
theorem putK_above (l : List Rw) (p : Nat) (h : Bool) (x : Rw) (k : Nat) (hk : p < k) (hl : k < l.length) : putK l p h x (k + 1) = putK l p h x k ++ [l.getD k r0] := by
  rw [putK_gt (show p < k + 1 by omega), putK_gt hk]
  unfold putL
  cases h
  · simp only [Bool.false_eq_true, if_false]
    rw [take_one _ (k + 1) (l.getD k r0) (by rw [insL_past _ _ _ _ (by omega) (by omega)]; exact getD_some hl)]
  · simp only [if_true]
    rw [take_one _ k (l.getD k r0) (by rw [List.getElem?_set_ne (by omega)]; exact getD_some hl)]
theorem putK_end (l : List Rw) (p : Nat) (h : Bool) (x : Rw) (hl : p < l.length) : putK l p h x l.length = putL l p h x := by
  rw [putK_gt hl]
  apply List.take_of_length_le
  unfold putL
  cases h
  · simp only [Bool.false_eq_true, if_false]; rw [insL_len _ _ _ (by omega)]; exact Nat.le_refl _
  · simp only [if_true]; rw [List.length_set]; exact Nat.le_refl _
theorem putK_last (l : List Rw) (h : Bool) (x : Rw) (hh : h = false) : putK l l.length h x l.length ++ [x] = putL l l.length h x := by
  subst hh
  rw [putK_le (Nat.le_refl _), List.take_length]
  unfold putL
  simp only [Bool.false_eq_true, if_false]
  rw [insL_end]
theorem putK_len (l : List Rw) (p : Nat) (h : Bool) (x : Rw) (k : Nat) (hk : k ≤ l.length) : (putK l p h x k).length ≤ k + 1 := by
  unfold putK
  split
  · rw [List.length_take]; omega
  · rw [List.length_take]; split <;> omega
section
variable {α : Type} {P : Program}
/-- As run_app_rows, and every other block stays. -/
theorem run_app_rowsK {t tx ty e k bytes : Nat} {z : Value} {enc : α → List Value} (ht : P.underlying t = some (.slice e)) (htx : P.underlying tx = some (.slice e)) (hinfo : (P.info? e).map (fun i => (i.zero, i.size, i.bytes)) = some (some z, k, bytes)) (hz : z.cells.size = k) (hk0 : 0 < k) (hb0 : bytes ≤ 1024)
    (hk : ∀ x, (enc x).length = k) (h1 : ∀ x, ∀ v ∈ enc x, v.oneCell' = true) (w : World) (B : Nat) (v : Value) (l : List α) (hown : OwnR e k enc w B v l) (a : Option Addr) (cap : Nat) (m : List α) (hm : RowsA k enc w a m)
    (hl : l.length ≤ 1000000000) (hml : m.length ≤ 1000000000) (hB : B ≤ w.heap.size) :
    ∃ b n c w', (Builtin.append_ #[t, tx] ty #[v, .slice a m.length cap]).run P w = .ok (.slice b n c) w' ∧ OwnR e k enc w' B (.slice b n c) (l ++ m) ∧ Below B w w' ∧ ∀ g o, w.heap[g]? = some o → v.ownBlock ≠ some g → w'.heap[g]? = some o := by
  obtain ⟨i0, hi, hz0, hz1, hz2⟩ := info_parts hinfo
  have hs := src_rows (cap := cap) htx hk hk0 h1 hm
  have hbb : (l.length + m.length) * bytes ≤ 2000000000 * 1024 := Nat.mul_le_mul (by omega) hb0
  obtain ⟨v', w', hr, h2, h3⟩ := run_app_src (P := P) w B t tx ty e i0 z ht hi hz0 (by rw [hz1]; exact hz) (by rw [hz1]; exact hk0) v l.length (l.flatMap enc) (by rw [hz1]; exact hown) (.slice a m.length cap) m.length (m.flatMap enc) (by rw [hz1]; exact hs) (by unfold maxLen; omega) (by rw [hz2]; omega) hB
  have ho : OwnR e k enc w' B v' (l ++ m) := by
    unfold OwnR
    rw [List.length_append, List.flatMap_append, ← hz1]
    exact h2
  obtain ⟨b2, c2, e2, -, -⟩ := ho.view hk
  subst e2
  exact ⟨b2, _, c2, w', hr, ho, grown_below (Below.refl _ _) h3 (fun g hg => (own_lt hown g hg).1) hB, fun g o hg hne => (h3.block g (Array.getElem?_eq_some_iff.1 hg).1 (fun q => hne q.symm)).trans hg⟩
end
theorem app_oneR (w : World) (B : Nat) (v : Value) (l : List Rw) (x1 x2 x3 x4 : Int) (hown : Ro.OwnA w B v l) (hl : l.length ≤ 1000000) (hB : B ≤ w.heap.size) :
    ∃ b n c w', (Builtin.append_ #[22, 22] 22 #[v, .slice (some ⟨w.heap.size, 0, none⟩) 1 1]).run Try.prog (w.alloc (.cells #[.int .i64 x1, .int .i64 x2, .int .i64 x3, .int .i64 x4] 72)) = .ok (.slice b n c) w' ∧ Ro.OwnA w' B (.slice b n c) (l ++ [(x1, x2, x3, x4)]) ∧ Below B w w' ∧ ∀ g o, w.heap[g]? = some o → v.ownBlock ≠ some g → w'.heap[g]? = some o := by
  obtain ⟨b, n, c, w', hr, ho, hb, hkk⟩ := run_app_rowsK (ty := 22) Try.underlying22 Try.underlying22 Ro.infoA rfl (by decide) (by decide) encR_len encR_one (w.alloc (.cells (encR (x1, x2, x3, x4)).toArray 72)) B v l (hown.alloc _) (some ⟨w.heap.size, 0, none⟩) 1 [(x1, x2, x3, x4)] (rows_one (enc := encR) w (x1, x2, x3, x4)) (by omega) (by simp) (by simp; omega)
  exact ⟨b, n, c, w', hr, ho, ((Below.refl _ _).alloc hB _).trans hb, fun g o hg hne => hkk g o ((Below.heap_alloc w _ g (Array.getElem?_eq_some_iff.1 hg).1).trans hg) hne⟩
theorem app_oneC (w : World) (B : Nat) (v : Value) (l : List Rw) (x1 x2 x3 x4 : Int) (hown : Co.OwnA w B v l) (hl : l.length ≤ 1000000) (hB : B ≤ w.heap.size) :
    ∃ b n c w', (Builtin.append_ #[43, 43] 43 #[v, .slice (some ⟨w.heap.size, 0, none⟩) 1 1]).run Try.prog (w.alloc (.cells #[.int .i64 x1, .int .i64 x2, .int .i64 x3, .int .i64 x4] 89)) = .ok (.slice b n c) w' ∧ Co.OwnA w' B (.slice b n c) (l ++ [(x1, x2, x3, x4)]) ∧ Below B w w' ∧ ∀ g o, w.heap[g]? = some o → v.ownBlock ≠ some g → w'.heap[g]? = some o := by
  obtain ⟨b, n, c, w', hr, ho, hb, hkk⟩ := run_app_rowsK (ty := 43) Try.underlying43 Try.underlying43 Co.infoA rfl (by decide) (by decide) encR_len encR_one (w.alloc (.cells (encR (x1, x2, x3, x4)).toArray 89)) B v l (hown.alloc _) (some ⟨w.heap.size, 0, none⟩) 1 [(x1, x2, x3, x4)] (rows_one (enc := encR) w (x1, x2, x3, x4)) (by omega) (by simp) (by simp; omega)
  exact ⟨b, n, c, w', hr, ho, ((Below.refl _ _).alloc hB _).trans hb, fun g o hg hne => hkk g o ((Below.heap_alloc w _ g (Array.getElem?_eq_some_iff.1 hg).1).trans hg) hne⟩
end Go.Proofs.Ytcgdhankllphgaa
