/- Rings: add, rotate (PU, PV, B, M3, R, RR, RS in one text) -/
import Derived.Test.YteblnmhaohbkkaaGreatDoorQG2
import Derived.Laws.OwnMore
namespace Go.Proofs.YteblnmhaohbkkaaGreatDoor
set_option linter.unusedVariables false
set_option linter.unusedSimpArgs false
section
open Go.RowKit
/-- The list with x in its place. -/
def putL (l : List Rw) (p : Nat) (h : Bool) (x : Rw) : List Rw := if h = true then l.set p x else insL l p x
/-- What is built after k rounds. -/
def putK (l : List Rw) (p : Nat) (h : Bool) (x : Rw) (k : Nat) : List Rw := if k ≤ p then l.take k else (putL l p h x).take (if h = true then k else k + 1)
theorem putK_le {l : List Rw} {p k : Nat} {h : Bool} {x : Rw} (q : k ≤ p) : putK l p h x k = l.take k := if_pos q
theorem putK_gt {l : List Rw} {p k : Nat} {h : Bool} {x : Rw} (q : p < k) : putK l p h x k = (putL l p h x).take (if h = true then k else k + 1) := if_neg (by omega)
theorem putK_zero (l : List Rw) (p : Nat) (h : Bool) (x : Rw) : putK l p h x 0 = [] := by simp [putK]
theorem take_one {α : Type} (l : List α) (k : Nat) (y : α) (h : l[k]? = some y) : l.take (k + 1) = l.take k ++ [y] := by
  have hk : k < l.length := (List.getElem?_eq_some_iff.1 h).1
  rw [List.take_succ_eq_append_getElem hk]
  congr 2
  rw [List.getElem?_eq_getElem hk] at h
  simpa using h
theorem getD_some {l : List Rw} {k : Nat} (hk : k < l.length) : l[k]? = some (l.getD k r0) := by rw [getEl hk]; exact List.getElem?_eq_getElem hk
theorem insL_at (l : List Rw) (p : Nat) (x : Rw) (hp : p ≤ l.length) : (insL l p x)[p]? = some x := by
  unfold insL
  rw [List.getElem?_append_right (by rw [List.length_take]; omega), List.length_take, Nat.min_eq_left hp, Nat.sub_self]
  rfl
theorem insL_past (l : List Rw) (p : Nat) (x : Rw) (k : Nat) (hp : p ≤ l.length) (hk : p ≤ k) : (insL l p x)[k + 1]? = l[k]? := by
  unfold insL
  rw [List.getElem?_append_right (by rw [List.length_take]; omega), List.length_take, Nat.min_eq_left hp, show k + 1 - p = (k - p) + 1 by omega, List.getElem?_cons_succ, List.getElem?_drop]
  congr 1
  omega
theorem putK_below (l : List Rw) (p : Nat) (h : Bool) (x : Rw) (k : Nat) (hk : k < p) (hl : k < l.length) : putK l p h x (k + 1) = putK l p h x k ++ [l.getD k r0] := by
  rw [putK_le (show k + 1 ≤ p by omega), putK_le (show k ≤ p by omega), take_one _ _ _ (getD_some hl)]
theorem putK_has (l : List Rw) (p : Nat) (x : Rw) (hl : p < l.length) : putK l p true x (p + 1) = putK l p true x p ++ [x] := by
  rw [putK_gt (show p < p + 1 by omega), putK_le (Nat.le_refl p)]
  unfold putL
  simp only [if_true]
  rw [take_one _ p x (by rw [List.getElem?_set_self hl])]
  congr 1
  rw [List.take_set, List.set_eq_of_length_le (by rw [List.length_take]; omega)]
theorem putK_not (l : List Rw) (p : Nat) (x : Rw) (hl : p < l.length) : putK l p false x (p + 1) = putK l p false x p ++ [x] ++ [l.getD p r0] := by
  rw [putK_gt (show p < p + 1 by omega), putK_le (Nat.le_refl p)]
  unfold putL
  simp only [Bool.false_eq_true, if_false]
  rw [take_one _ (p + 1) (l.getD p r0) (by rw [insL_past _ _ _ _ (by omega) (Nat.le_refl _)]; exact getD_some hl), take_one _ p x (insL_at _ _ _ (by omega))]
  congr 2
  unfold insL
  rw [List.take_left' (by rw [List.length_take]; omega)]
theorem putK_above (l : List Rw) (p : Nat) (h : Bool) (x : Rw) (k : Nat) (hk : p < k) (hl : k < l.length) : putK l p h x (k + 1) = putK l p h x k ++ [l.getD k r0] := by
  rw [putK_gt (show p < k + 1 by omega), putK_gt hk]
  unfold putL
  cases h
  · simp only [Bool.false_eq_true, if_false]
    rw [take_one _ (k + 1) (l.getD k r0) (by rw [insL_past _ _ _ _ (by omega) (by omega)]; exact getD_some hl)]
  · simp only [if_true]
    rw [take_one _ k (l.getD k r0) (by rw [List.getElem?_set_ne (by omega)]; exact getD_some hl)]
theorem putK_end (l : List Rw) (p : Nat) (h : Bool) (x : Rw) (hl : p < l.length) : putK l p h x l.length = putL l p h x := by
  rw [putK_gt hl]
  apply List.take_of_length_le
  unfold putL
  cases h
  · simp only [Bool.false_eq_true, if_false]; rw [insL_len _ _ _ (by omega)]; exact Nat.le_refl _
  · simp only [if_true]; rw [List.length_set]; exact Nat.le_refl _
theorem putK_last (l : List Rw) (h : Bool) (x : Rw) (hh : h = false) : putK l l.length h x l.length ++ [x] = putL l l.length h x := by
  subst hh
  rw [putK_le (Nat.le_refl _), List.take_length]
  unfold putL
  simp only [Bool.false_eq_true, if_false]
  rw [insL_end]
theorem putK_len (l : List Rw) (p : Nat) (h : Bool) (x : Rw) (k : Nat) (hk : k ≤ l.length) : (putK l p h x k).length ≤ k + 1 := by
  unfold putK
  split
  · rw [List.length_take]; omega
  · rw [List.length_take]; split <;> omega
section
variable {α : Type} {P : Program}
/-- As run_app_rows, and every other block stays. -/
theorem run_app_rowsK {t tx ty e k bytes : Nat} {z : Value} {enc : α → List Value} (ht : P.underlying t = some (.slice e)) (htx : P.underlying tx = some (.slice e)) (hinfo : (P.info? e).map (fun i => (i.zero, i.size, i.bytes)) = some (some z, k, bytes)) (hz : z.cells.size = k) (hk0 : 0 < k) (hb0 : bytes ≤ 1024)
    (hk : ∀ x, (enc x).length = k) (h1 : ∀ x, ∀ v ∈ enc x, v.oneCell' = true) (w : World) (B : Nat) (v : Value) (l : List α) (hown : OwnR e k enc w B v l) (a : Option Addr) (cap : Nat) (m : List α) (hm : RowsA k enc w a m)
    (hl : l.length ≤ 1000000000) (hml : m.length ≤ 1000000000) (hB : B ≤ w.heap.size) :
    ∃ b n c w', (Builtin.append_ #[t, tx] ty #[v, .slice a m.length cap]).run P w = .ok (.slice b n c) w' ∧ OwnR e k enc w' B (.slice b n c) (l ++ m) ∧ Below B w w' ∧ ∀ g o, w.heap[g]? = some o → v.ownBlock ≠ some g → w'.heap[g]? = some o := by
  obtain ⟨i0, hi, hz0, hz1, hz2⟩ := info_parts hinfo
  have hs := src_rows (cap := cap) htx hk hk0 h1 hm
  have hbb : (l.length + m.length) * bytes ≤ 2000000000 * 1024 := Nat.mul_le_mul (by omega) hb0
  obtain ⟨v', w', hr, h2, h3⟩ := run_app_src (P := P) w B t tx ty e i0 z ht hi hz0 (by rw [hz1]; exact hz) (by rw [hz1]; exact hk0) v l.length (l.flatMap enc) (by rw [hz1]; exact hown) (.slice a m.length cap) m.length (m.flatMap enc) (by rw [hz1]; exact hs) (by unfold maxLen; omega) (by rw [hz2]; omega) hB
  have ho : OwnR e k enc w' B v' (l ++ m) := by
    unfold OwnR
    rw [List.length_append, List.flatMap_append, ← hz1]
    exact h2
  obtain ⟨b2, c2, e2, -, -⟩ := ho.view hk
  subst e2
  exact ⟨b2, _, c2, w', hr, ho, grown_below (Below.refl _ _) h3 (fun g hg => (own_lt hown g hg).1) hB, fun g o hg hne => (h3.block g (Array.getElem?_eq_some_iff.1 hg).1 (fun q => hne q.symm)).trans hg⟩
end
theorem app_oneR (w : World) (B : Nat) (v : Value) (l : List Rw) (x1 x2 : Int) (x3 : ByteArray) (x4 x5 : Int) (hown : Ke.OwnA w B v l) (hl : l.length ≤ 1000000) (hB : B ≤ w.heap.size) :
    ∃ b n c w', (Builtin.append_ #[22, 22] 22 #[v, .slice (some ⟨w.heap.size, 0, none⟩) 1 1]).run Tryz.prog (w.alloc (.cells #[.int .i64 x1, .int .i64 x2, .string x3, .int .i64 x4, .int .i64 x5] 52)) = .ok (.slice b n c) w' ∧ Ke.OwnA w' B (.slice b n c) (l ++ [(x1, x2, x3, x4, x5)]) ∧ Below B w w' ∧ ∀ g o, w.heap[g]? = some o → v.ownBlock ≠ some g → w'.heap[g]? = some o := by
  obtain ⟨b, n, c, w', hr, ho, hb, hkk⟩ := run_app_rowsK (ty := 22) Tryz.underlying22 Tryz.underlying22 Ke.infoA rfl (by decide) (by decide) encR_len encR_one (w.alloc (.cells (encR (x1, x2, x3, x4, x5)).toArray 52)) B v l (hown.alloc _) (some ⟨w.heap.size, 0, none⟩) 1 [(x1, x2, x3, x4, x5)] (rows_one (enc := encR) w (x1, x2, x3, x4, x5)) (by omega) (by simp) (by simp; omega)
  exact ⟨b, n, c, w', hr, ho, ((Below.refl _ _).alloc hB _).trans hb, fun g o hg hne => hkk g o ((Below.heap_alloc w _ g (Array.getElem?_eq_some_iff.1 hg).1).trans hg) hne⟩
end
section
open Go.RowKit Go.Sort
end
section
open Go.RowKit Go.Sort
def RowsS (L : List Rw × Int) (w : World) (e : Ending) : Prop := ∃ a' c', e = .returned (.agg #[.slice a' L.1.length c', .int .i64 L.2]) ∧ RwA w a' L.1
theorem RowsS.nil (n : Int) (w : World) : RowsS ([], n) w (.returned (.agg #[.slice Option.none 0 0, .int .i64 n])) := ⟨Option.none, 0, rfl, RowsA.nil _ _ _ _⟩
end
section
open Go.RowKit
theorem flat_set : ∀ (l : List Rw) (i j : Nat) (u : Value) (x : Rw), i < l.length → j < 5 → encR x = (encR (l.getD i r0)).set j u → (l.flatMap encR).set (i * 5 + j) u = (l.set i x).flatMap encR
  | [], i, j, u, x, h, _, _ => absurd h (by simp)
  | a :: l, 0, j, u, x, _, hj, h => by
    simp only [List.flatMap_cons, List.set_cons_zero, List.getD_cons_zero] at h ⊢
    rw [Nat.zero_mul, Nat.zero_add, List.set_append_left _ _ (by rw [encR_len]; exact hj), h]
  | a :: l, i + 1, j, u, x, hi, hj, h => by
    simp only [List.flatMap_cons, List.set_cons_succ, List.getD_cons_succ] at h ⊢
    rw [List.set_append_right _ _ (by rw [encR_len]; omega), encR_len, show (i + 1) * 5 + j - 5 = i * 5 + j by omega, flat_set l i j u x (by simpa using hi) hj h]
section
variable {W : World} {e B n cap : Nat} {a : Option Addr} {l : List Rw}
theorem own_at (h : OwnR e 5 encR W B (.slice a n cap) l) {i : Nat} (hi : i < l.length) :
    ∃ g, a = some ⟨g, 0, none⟩ ∧ n = l.length ∧ B ≤ g ∧ W.cell? ⟨g, i * 5, none⟩ = some (.int .i64 (l.getD i r0).1) ∧ W.cell? ⟨g, i * 5 + 1, none⟩ = some (.int .i64 (l.getD i r0).2.1) ∧ W.cell? ⟨g, i * 5 + 2, none⟩ = some (.string (l.getD i r0).2.2.1) ∧
      W.cell? ⟨g, i * 5 + 3, none⟩ = some (.int .i64 (l.getD i r0).2.2.2.1) ∧ W.cell? ⟨g, i * 5 + 4, none⟩ = some (.int .i64 (l.getD i r0).2.2.2.2) ∧ ∀ j, W.frozen? ⟨g, j, none⟩ = false := by
  rcases h.2 with ⟨-, h1⟩ | ⟨g, cap', cur, e', hB, hg, -⟩
  · rw [h1] at hi; simp at hi
  · injection e' with e1 e2 e3
    subst e1; subst e2; subst e3
    have hx : l[i]? = some (l.getD i r0) := by rw [List.getElem?_eq_getElem hi, getD_at r0 hi]
    have at_ : ∀ j, j < 5 → W.cell? ⟨g, i * 5 + j, none⟩ = (encR (l.getD i r0))[j]? := fun j hj => by
      rw [World.ownsRow.cellAt h (i * 5 + j) (by omega), flat_at encR_len l i j hj, hx]; rfl
    exact ⟨g, rfl, rfl, hB, at_ 0 (by decide), at_ 1 (by decide), at_ 2 (by decide), at_ 3 (by decide), at_ 4 (by decide), fun j => h.frozenAt j⟩
theorem own_set {g : Nat} (h : OwnR e 5 encR W B (.slice (some ⟨g, 0, none⟩) n cap) l) {i j : Nat} (hi : i < l.length) (hj : j < 5) (u : Value) (x : Rw) (hx : encR x = (encR (l.getD i r0)).set j u) :
    OwnR e 5 encR (W.setCell ⟨g, i * 5 + j, none⟩ u) B (.slice (some ⟨g, 0, none⟩) n cap) (l.set i x) := by
  have hn : n = l.length := by
    rcases h.2 with ⟨h', _⟩ | ⟨g', cap', cur, h', _⟩
    · simp at h'
    · injection h'
  subst hn
  have := (World.ownsRow.stored h (i * 5 + j) u).1
  unfold OwnR
  rw [← flat_set l i j u x hi hj hx, List.length_set]
  exact this
end
theorem getD_set_ne (l : List Rw) (i j : Nat) (x : Rw) (h : i ≠ j) : (l.set i x).getD j r0 = l.getD j r0 := by
  rw [List.getD_eq_getElem?_getD, List.getElem?_set_ne h, ← List.getD_eq_getElem?_getD]
theorem getD_set_eq (l : List Rw) (i : Nat) (x : Rw) (h : i < l.length) : (l.set i x).getD i r0 = x := by
  rw [List.getD_eq_getElem?_getD, List.getElem?_set_self h]; rfl
theorem set_key {l : List Rw} {i : Nat} {x : Rw} (h1 : x.1 = (l.getD i r0).1) (h2 : x.2.1 = (l.getD i r0).2.1) (j : Nat) : ((l.set i x).getD j r0).1 = (l.getD j r0).1 ∧ ((l.set i x).getD j r0).2.1 = (l.getD j r0).2.1 := by
  by_cases e : i = j
  · subst e
    by_cases hl : i < l.length
    · rw [getD_set_eq l i x hl]; exact ⟨h1, h2⟩
    · rw [List.set_eq_of_length_le (by omega)]; exact ⟨rfl, rfl⟩
  · rw [getD_set_ne l i j x e]; exact ⟨rfl, rfl⟩
theorem set_ord {l : List Rw} {i : Nat} {x : Rw} (ord : OrdR l) (h1 : x.1 = (l.getD i r0).1) (h2 : x.2.1 = (l.getD i r0).2.1) : OrdR (l.set i x) := fun k hk => by
  rw [List.length_set] at hk
  have := ord k hk
  unfold ltR at this ⊢
  rw [(set_key h1 h2 k).1, (set_key h1 h2 k).2, (set_key h1 h2 (k + 1)).1, (set_key h1 h2 (k + 1)).2]
  exact this
theorem ins_set (l : List Rw) (i : Nat) (x y : Rw) (hi : i + 1 ≤ l.length) : (insL l (i + 1) x).set i y = insL (l.set i y) (i + 1) x := by
  unfold insL
  rw [List.set_append_left _ _ (by rw [List.length_take]; omega), List.take_set, List.drop_set_of_lt (by omega)]
theorem ins_at_lt (l : List Rw) (p j : Nat) (x : Rw) (hp : p ≤ l.length) (hj : j < p) : (insL l p x).getD j r0 = l.getD j r0 := by
  unfold insL
  rw [List.getD_eq_getElem?_getD, List.getElem?_append_left (by rw [List.length_take]; omega), List.getElem?_take_of_lt hj, ← List.getD_eq_getElem?_getD]
/-- The place of the last key of a party, or -1. -/
def lastK (l : List Rw) (p : Int) : Nat → Int
  | 0 => -1
  | k + 1 => if (l.getD k r0).1 = p then k else lastK l p k
theorem last_far {l : List Rw} {p : Int} {k : Nat} : ∀ m, k ≤ m → (∀ j, k ≤ j → j < m → (l.getD j r0).1 ≠ p) → lastK l p m = lastK l p k
  | 0, h, _ => by obtain rfl : k = 0 := by omega
                  rfl
  | m + 1, h, hj => by
    rcases Nat.eq_or_lt_of_le h with rfl | h2
    · rfl
    · rw [← last_far (l := l) (p := p) (k := k) m (by omega) (fun j h1 h3 => hj j h1 (by omega))]
      show (if _ then _ else _) = _
      rw [if_neg (hj m (by omega) (by omega))]
def lastL (l : List Rw) (p : Int) : Int := lastK l p l.length
theorem last_none {l : List Rw} {p : Int} {f : Nat} (h : KeysAt l p f f) : lastL l p = -1 := last_far l.length (Nat.zero_le _) (fun j _ hj => h.out j hj (by omega))
theorem last_some {l : List Rw} {p : Int} {f t : Nat} (h : KeysAt l p f t) (hft : f < t) : lastL l p = (t : Int) - 1 := by
  have a : lastK l p (t - 1 + 1) = ((t - 1 : Nat) : Int) := by
    show (if _ then _ else _) = _
    rw [if_pos (h.inn (t - 1) (by omega) (by omega))]
  have c : lastK l p l.length = lastK l p (t - 1 + 1) := last_far l.length (by have := h.len; omega) (fun j h3 h4 => h.out j h4 (Or.inr (by omega)))
  unfold lastL
  rw [c, a]
  omega
def argBad (x : Rw) (at_ ov : Int) : Prop := at_ < 0 ∨ 1099511627776 < at_ ∨ ov < 0 ∨ 1099511627776 < ov ∨ ¬ keyOk x
instance (x : Rw) (a b : Int) : Decidable (argBad x a b) := by unfold argBad; infer_instance
def rotL (l : List Rw) (p : Int) (s : ByteArray) (at_ ov : Int) : List Rw × Int :=
  if lastL l p < 0 then ([], 5)
  else if argBad (p, (l.getD (lastL l p).toNat r0).2.1 + 1, s, at_, 1099511627776) at_ ov then ([], 1)
  else if at_ + ov ≤ (l.getD (lastL l p).toNat r0).2.2.2.1 ∨ (l.getD (lastL l p).toNat r0).2.2.2.2 < at_ then ([], 9)
  else if 1000 ≤ l.length then ([], 2)
  else (insL (l.set (lastL l p).toNat ((l.getD (lastL l p).toNat r0).1, (l.getD (lastL l p).toNat r0).2.1, (l.getD (lastL l p).toNat r0).2.2.1, (l.getD (lastL l p).toNat r0).2.2.2.1, min (l.getD (lastL l p).toNat r0).2.2.2.2 (at_ + ov))) ((lastL l p).toNat + 1) (p, (l.getD (lastL l p).toNat r0).2.1 + 1, s, at_, 1099511627776), 0)
theorem rot_pos {l : List Rw} (ord : OrdR l) {p : Int} {f i : Nat} (h : KeysAt l p f (i + 1)) (hft : f ≤ i) : posC (cR p ((l.getD i r0).2.1 + 1)) l = i + 1 ∧ ¬ hasC (cR p ((l.getD i r0).2.1 + 1)) l = true := by
  have hp := h.inn i hft (by omega)
  have e : posC (cR p ((l.getD i r0).2.1 + 1)) l = i + 1 := posC_is _ _ _ h.len (fun j hj => by
    rw [cR_neg]
    rcases Nat.eq_or_lt_of_le (Nat.le_of_lt_succ hj) with e | e
    · subst e; right; exact ⟨hp, by omega⟩
    · have := ord.lt e (by have := h.len; omega)
      unfold ltR at this
      rw [hp] at this
      omega) (fun hl => by
    have h1 := h.out (i + 1) hl (Or.inr (Nat.le_refl _))
    have h2 := ord.lt (show i < i + 1 by omega) hl
    unfold ltR at h2
    rw [cR_neg]
    omega)
  refine ⟨e, fun q => ?_⟩
  obtain ⟨a, b⟩ := (hasC_iff _ _).1 q
  rw [e] at a b
  exact h.out (i + 1) a (Or.inr (Nat.le_refl _)) (cR_zero.1 b).1
theorem keys_set {l : List Rw} {p : Int} {f t i : Nat} {x : Rw} (h : KeysAt l p f t) (h1 : x.1 = (l.getD i r0).1) (h2 : x.2.1 = (l.getD i r0).2.1) : KeysAt (l.set i x) p f t :=
  ⟨h.le, by rw [List.length_set]; exact h.len, fun j a b => by rw [(set_key h1 h2 j).1]; exact h.inn j a b, fun j a b => by rw [List.length_set] at a; rw [(set_key h1 h2 j).1]; exact h.out j a b⟩
theorem run_to (l : List Rw) (p : Int) : ∀ n F, F + n = l.length → ∃ t, F ≤ t ∧ t ≤ l.length ∧ (∀ j, F ≤ j → j < t → (l.getD j r0).1 = p) ∧ (t < l.length → (l.getD t r0).1 ≠ p)
  | 0, F, h => ⟨F, Nat.le_refl _, by omega, fun j h1 h2 => absurd h1 (by omega), fun h2 => absurd h2 (by omega)⟩
  | n + 1, F, h => by
    by_cases e : (l.getD F r0).1 = p
    · obtain ⟨t, h1, h2, h3, h4⟩ := run_to l p n (F + 1) (by omega)
      exact ⟨t, by omega, h2, fun j a b => by
        rcases Nat.eq_or_lt_of_le a with q | q
        · subst q; exact e
        · exact h3 j q b, h4⟩
    · exact ⟨F, Nat.le_refl _, by omega, fun j h1 h2 => absurd h1 (by omega), fun _ => e⟩
theorem keys_ex {l : List Rw} (ok : RingOk l) (p : Int) : ∃ T, KeysAt l p (posC (cR p 1) l) T := by
  have hle := posC_le (cR p 1) l
  obtain ⟨t, h1, h2, h3, h4⟩ := run_to l p (l.length - posC (cR p 1) l) (posC (cR p 1) l) (by omega)
  refine ⟨t, keys_at ok.ord hle (fun j hj => ?_) h1 h2 h3 h4 (fun h => ?_)⟩
  · have h5 := posC_below (cR p 1) l j hj
    rw [cR_neg] at h5
    have h6 := (ok.keys j (by omega)).2.1.1
    omega
  · have h5 := posC_at (cR p 1) l h
    rw [cR_neg] at h5
    omega
theorem keys_uni {l : List Rw} {p : Int} {f t t' : Nat} (h : KeysAt l p f t) (h' : KeysAt l p f t') : t = t' := by
  rcases Nat.eq_or_lt_of_le h.le with e | e
  · subst e
    rcases Nat.eq_or_lt_of_le h'.le with e' | e'
    · exact e'
    · exact absurd (h'.inn f (Nat.le_refl _) e') (h.out f (by have := h'.len; omega) (Or.inr (Nat.le_refl _)))
  · rcases Nat.eq_or_lt_of_le h'.le with e' | e'
    · subst e'
      exact absurd (h.inn f (Nat.le_refl _) e) (h'.out f (by have := h.len; omega) (Or.inr (Nat.le_refl _)))
    · have a := last_some h e
      have b := last_some h' e'
      omega
end
section
open Go.RowKit Go.Sort
end
section
open Go.RowKit Go.Sort
end
section
open Go.RowKit Go.Sort
end
end Go.Proofs.YteblnmhaohbkkaaGreatDoor
