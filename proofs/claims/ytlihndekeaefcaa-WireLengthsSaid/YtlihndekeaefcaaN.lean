/- Lists in encodings: what is written is read, what is read was written, what is cut is missed. No program. -/
import Derived.Test.YtlihndekeaefcaaT
namespace Go.Proofs.Ytlihndekeaefcaa
set_option linter.unusedVariables false
set_option linter.unusedSimpArgs false
open Go.RowKit
section
variable {α : Type} {D : List Nat → α × Nat × Nat} {f : α → List Nat}
/-- Reading an element gives back what was written, whatever follows. -/
def Rt (D : List Nat → α × Nat × Nat) (f : α → List Nat) (x : α) : Prop := ∀ t, D (f x ++ t) = (x, (f x).length, 0)
/-- A part of an element is too short. -/
def Cut (D : List Nat → α × Nat × Nat) (f : α → List Nat) (x : α) : Prop := ∀ i, i < (f x).length → (D ((f x).take i)).2.2 = 10
/-- What is read was written. -/
def Only (D : List Nat → α × Nat × Nat) (f : α → List Nat) (l : List Nat) : Prop := (D l).2.2 = 0 → f (D l).1 = l.take (D l).2.1 ∧ (D l).2.1 ≤ l.length
theorem dlA_rt : ∀ (l : List α) (acc : List α) (at' : Nat) (buf t : List Nat), (∀ x ∈ l, Rt D f x) → buf.drop at' = l.flatMap f ++ t → dlA D l.length acc at' buf = (acc ++ l, at' + (l.flatMap f).length, 0)
  | [], acc, at', buf, t, _, _ => by simp [dlA]
  | x :: l, acc, at', buf, t, h, e => by
    have e1 : buf.drop at' = f x ++ (l.flatMap f ++ t) := by rw [e, List.flatMap_cons, List.append_assoc]
    have hd : D (buf.drop at') = (x, (f x).length, 0) := by rw [e1]; exact h x (by simp) _
    rw [List.length_cons, dlA_ok hd, dlA_rt l (acc ++ [x]) (at' + (f x).length) buf t (fun y hy => h y (by simp [hy])) (by
      rw [← List.drop_drop, e1, List.drop_left])]
    rw [List.flatMap_cons, List.length_append, List.append_assoc, Nat.add_assoc]
    rfl
theorem GL_rt (s : Nat) (n : Nat) (r : List Nat) (hs : 1 ≤ s) (h : n * s ≤ r.length) (hn : n ≤ 1000000) : GL s (enc n ++ r) = ((n : Int), (enc n).length, 0) := by
  have hg := getI_enc 11 10 n r (by omega) (by omega)
  refine GL_ok hg (by omega) ?_
  rw [List.length_append, Nat.add_sub_cancel_left]
  have := (Nat.le_div_iff_mul_le (by omega : 0 < s)).2 h
  omega
theorem flatMap_len {s : Nat} : ∀ (l : List α), (∀ x ∈ l, s ≤ (f x).length) → l.length * s ≤ (l.flatMap f).length
  | [], _ => by simp
  | x :: l, h => by
    have := flatMap_len l (fun y hy => h y (by simp [hy]))
    have := h x (by simp)
    rw [List.flatMap_cons, List.length_append, List.length_cons, Nat.succ_mul]
    omega
theorem DL_rt (s : Nat) (l : List α) (t : List Nat) (hs : 1 ≤ s) (hn : l.length ≤ 1000000) (h : ∀ x ∈ l, Rt D f x) (h2 : ∀ x ∈ l, s ≤ (f x).length) : DL D s (encL f l ++ t) = (l, (encL f l).length, 0) := by
  unfold encL
  rw [List.append_assoc, DL_ok (GL_rt s l.length _ hs (by rw [List.length_append]; have := flatMap_len l h2; omega) hn), dlA_rt l [] _ _ t h (by rw [List.drop_left]), List.length_append]
  rfl
theorem dlA_cut : ∀ (l : List α) (acc : List α) (at' : Nat) (buf : List Nat) (j : Nat), (∀ x ∈ l, Rt D f x) → (∀ x ∈ l, Cut D f x) → j < (l.flatMap f).length → buf.drop at' = (l.flatMap f).take j → dlA D l.length acc at' buf = ([], 0, 10)
  | [], acc, at', buf, j, _, _, hj, _ => absurd hj (by simp)
  | x :: l, acc, at', buf, j, h, hc, hj, e => by
    rw [List.flatMap_cons] at hj e
    by_cases hlt : j < (f x).length
    · have e1 : buf.drop at' = (f x).take j := by rw [e, List.take_append_of_le_length (by omega)]
      have hd := hc x (by simp) j hlt
      rw [← e1] at hd
      obtain ⟨y, u, er, hD⟩ : ∃ y u er, D (buf.drop at') = (y, u, er) := ⟨_, _, _, rfl⟩
      rw [hD] at hd
      simp only at hd
      subst hd
      rw [List.length_cons, dlA_err hD (by decide)]
    · have e1 : buf.drop at' = f x ++ (l.flatMap f).take (j - (f x).length) := by rw [e, List.take_append, List.take_of_length_le (by omega)]
      have hd : D (buf.drop at') = (x, (f x).length, 0) := by rw [e1]; exact h x (by simp) _
      rw [List.length_cons, dlA_ok hd]
      refine dlA_cut l (acc ++ [x]) (at' + (f x).length) buf (j - (f x).length) (fun y hy => h y (by simp [hy])) (fun y hy => hc y (by simp [hy])) (by rw [List.length_append] at hj; omega) ?_
      rw [← List.drop_drop, e1, List.drop_left]
theorem GL_cut (s n i : Nat) (hn : n ≤ 1000000) (hi : i < (enc n).length) : GL s ((enc n).take i) = (0, 0, 10) :=
  GL_err (getI_cut 11 10 n i (by omega) (by omega) hi) (by decide)
theorem DL_cut (s : Nat) (l : List α) (i : Nat) (hs : 1 ≤ s) (hn : l.length ≤ 1000000) (h : ∀ x ∈ l, Rt D f x) (hc : ∀ x ∈ l, Cut D f x) (hi : i < (encL f l).length) : (DL D s ((encL f l).take i)).2.2 = 10 := by
  by_cases hlt : i < (enc l.length).length
  · have e : (encL f l).take i = (enc l.length).take i := by unfold encL; rw [List.take_append_of_le_length (by omega)]
    rw [e, DL_err (GL_cut s l.length i hn hlt) (by decide)]
  · have e : (encL f l).take i = enc l.length ++ (l.flatMap f).take (i - (enc l.length).length) := by unfold encL; rw [List.take_append, List.take_of_length_le (by omega)]
    have hj : i - (enc l.length).length < (l.flatMap f).length := by unfold encL at hi; rw [List.length_append] at hi; omega
    rw [e]
    obtain ⟨j, hjj⟩ : ∃ j, i - (enc l.length).length = j := ⟨_, rfl⟩
    rw [hjj] at hj ⊢
    have hg := getI_enc 11 10 l.length ((l.flatMap f).take j) (by omega) (by omega)
    by_cases hb : l.length * s ≤ ((l.flatMap f).take j).length
    · rw [DL_ok (GL_rt s l.length _ hs hb hn), dlA_cut l [] _ _ j h hc hj (by rw [List.drop_left])]
    · have : ((l.flatMap f).take j).length / s < l.length := (Nat.div_lt_iff_lt_mul (by omega)).2 (by omega)
      rw [DL_err (D := D) (e := 10) (GL_big (s := s) hg (by omega) (by rw [List.length_append, Nat.add_sub_cancel_left]; omega)) (by decide)]
theorem dlA_only : ∀ (n : Nat) (acc : List α) (at' : Nat) (l : List Nat) (xs : List α) (k : Nat), (∀ m, Only D f (l.drop m)) → at' ≤ l.length → dlA D n acc at' l = (xs, k, 0) → ∃ ys, xs = acc ++ ys ∧ ys.length = n ∧ at' ≤ k ∧ k ≤ l.length ∧ l.take k = l.take at' ++ ys.flatMap f
  | 0, acc, at', l, xs, k, _, ha, e => by
    simp only [dlA, Prod.mk.injEq, and_true] at e
    obtain ⟨rfl, rfl⟩ := e
    exact ⟨[], by simp, rfl, Nat.le_refl _, ha, by simp⟩
  | n + 1, acc, at', l, xs, k, h, ha, e => by
    obtain ⟨x, u, er, hD⟩ : ∃ x u er, D (l.drop at') = (x, u, er) := ⟨_, _, _, rfl⟩
    by_cases he : er = 0
    · subst he
      rw [dlA_ok hD] at e
      have ho := h at'
      unfold Only at ho
      rw [hD] at ho
      obtain ⟨o1, o2⟩ := ho rfl
      simp only [List.length_drop] at o1 o2
      obtain ⟨ys, rfl, h1, h2, h3, h4⟩ := dlA_only n (acc ++ [x]) (at' + u) l xs k h (by omega) e
      refine ⟨x :: ys, by simp, by simp [h1], by omega, h3, ?_⟩
      rw [h4, List.take_add, List.flatMap_cons, o1, List.append_assoc]
    · rw [dlA_err hD he] at e
      simp only [Prod.mk.injEq] at e
      exact absurd e.2.2 he
theorem GL_only {s : Nat} {l : List Nat} {n : Int} {u : Nat} (hb : ∀ x ∈ l, x < 256) (h : GL s l = (n, u, 0)) : 0 ≤ n ∧ enc n = l.take u ∧ u ≤ l.length ∧ n ≤ (((l.length - u) / s : Nat) : Int) := by
  obtain ⟨m, v, er, hG⟩ : ∃ m v er, G l = (m, v, er) := ⟨_, _, _, rfl⟩
  by_cases he : er = 0
  · subst he
    by_cases hm : m < 0
    · rw [GL_neg hG hm] at h; cases h
    · by_cases h2 : (((l.length - v) / s : Nat) : Int) < m
      · rw [GL_big hG (by omega) h2] at h; cases h
      · rw [GL_ok hG (by omega) (by omega)] at h
        simp only [Prod.mk.injEq, and_true] at h
        obtain ⟨rfl, rfl⟩ := h
        have ho := getI_only 11 10 (by decide) (by decide) l hb (by show (G l).2.2 = 0; rw [hG])
        obtain ⟨o1, o2, -⟩ := ho
        change (G l).2.1 ≤ _ at o1
        change enc (G l).1 = l.take (G l).2.1 at o2
        rw [hG] at o1 o2
        exact ⟨by omega, o2, o1, by omega⟩
  · rw [GL_err hG he] at h
    simp only [Prod.mk.injEq] at h
    exact absurd h.2.2 he
theorem DL_only (s : Nat) (l : List Nat) (xs : List α) (k : Nat) (hb : ∀ x ∈ l, x < 256) (ho : ∀ m, Only D f (l.drop m)) (h : DL D s l = (xs, k, 0)) : encL f xs = l.take k ∧ k ≤ l.length := by
  obtain ⟨n, u, er, hG⟩ : ∃ n u er, GL s l = (n, u, er) := ⟨_, _, _, rfl⟩
  by_cases he : er = 0
  · subst he
    obtain ⟨g1, g2, g3, -⟩ := GL_only hb hG
    obtain ⟨m, rfl⟩ : ∃ m : Nat, n = m := ⟨n.toNat, by omega⟩
    rw [DL_ok hG] at h
    obtain ⟨ys, rfl, h1, h2, h3, h4⟩ := dlA_only m [] u l xs k ho g3 h
    refine ⟨?_, h3⟩
    rw [h4, ← g2]
    unfold encL
    rw [h1]
  · rw [DL_err hG he] at h
    simp only [Prod.mk.injEq] at h
    exact absurd h.2.2 he
end
theorem rt_enc (x : Int) (h1 : -9223372036854775808 ≤ x) (h2 : x ≤ 9223372036854775807) : Rt G enc x := fun t => getI_enc 11 10 x t h1 h2
theorem cut_enc (x : Int) (h1 : -9223372036854775808 ≤ x) (h2 : x ≤ 9223372036854775807) : Cut G enc x := fun i hi => by
  show (getI 11 10 ((enc x).take i)).2.2 = 10
  rw [getI_cut 11 10 x i h1 h2 hi]
theorem only_enc (l : List Nat) (hb : ∀ x ∈ l, x < 256) : Only G enc l := fun h => by
  obtain ⟨o1, o2, -⟩ := getI_only 11 10 (by decide) (by decide) l hb h
  exact ⟨o2, o1⟩
/-- Byte strings, as lists of bytes. -/
theorem GB_rt (s t : List Nat) (hs : s.length ≤ 1000000) : GB (encS s ++ t) = (s, (encS s).length, 0) := by
  unfold encS
  rw [List.append_assoc, GB_ok (GL_rt 1 s.length (s ++ t) (by decide) (by rw [List.length_append]; omega) hs), List.drop_left, List.take_left, List.length_append]
theorem GB_cut (s : List Nat) (i : Nat) (hs : s.length ≤ 1000000) (hi : i < (encS s).length) : GB ((encS s).take i) = ([], 0, 10) := by
  by_cases hlt : i < (enc s.length).length
  · have e : (encS s).take i = (enc s.length).take i := by unfold encS; rw [List.take_append_of_le_length (by omega)]
    rw [e, GB_err (GL_cut 1 s.length i hs hlt) (by decide)]
  · have e : (encS s).take i = enc s.length ++ s.take (i - (enc s.length).length) := by unfold encS; rw [List.take_append, List.take_of_length_le (by omega)]
    have hj : i - (enc s.length).length < s.length := by unfold encS at hi; rw [List.length_append] at hi; omega
    rw [e]
    obtain ⟨j, hjj⟩ : ∃ j, i - (enc s.length).length = j := ⟨_, rfl⟩
    rw [hjj] at hj ⊢
    have hg := getI_enc 11 10 s.length (s.take j) (by omega) (by omega)
    exact GB_err (e := 10) (GL_big (s := 1) hg (by omega) (by rw [List.length_append, Nat.add_sub_cancel_left, List.length_take, Nat.div_one]; omega)) (by decide)
theorem GB_only (l : List Nat) (hb : ∀ x ∈ l, x < 256) (h : (GB l).2.2 = 0) : encS (GB l).1 = l.take (GB l).2.1 ∧ (GB l).2.1 ≤ l.length := by
  obtain ⟨n, u, er, hG⟩ : ∃ n u er, GL 1 l = (n, u, er) := ⟨_, _, _, rfl⟩
  by_cases he : er = 0
  · subst he
    obtain ⟨g1, g2, g3, g4⟩ := GL_only hb hG
    obtain ⟨m, rfl⟩ : ∃ m : Nat, n = m := ⟨n.toNat, by omega⟩
    rw [Nat.div_one] at g4
    rw [GB_ok hG]
    refine ⟨?_, by simp only; omega⟩
    unfold encS
    rw [List.length_take, List.length_drop, Nat.min_eq_left (by omega), g2, List.take_add]
  · rw [GB_err hG he] at h
    exact absurd h he
/-- The bytes of strings. -/
theorem sb_lt (s : ByteArray) : ∀ x ∈ sb s, x < 256 := by
  intro x hx
  unfold sb at hx
  obtain ⟨y, -, rfl⟩ := List.mem_map.1 hx
  exact y.toNat_lt
theorem rt_str (s : ByteArray) (hs : s.size ≤ 1000000) : Rt GBs (fun s => encS (sb s)) s := fun t => by
  show (strB (GB (encS (sb s) ++ t)).1, (GB (encS (sb s) ++ t)).2.1, (GB (encS (sb s) ++ t)).2.2) = _
  rw [GB_rt (sb s) t (by rw [sb_len]; exact hs), strB_sb]
theorem cut_str (s : ByteArray) (hs : s.size ≤ 1000000) : Cut GBs (fun s => encS (sb s)) s := fun i hi => by
  show (GB ((encS (sb s)).take i)).2.2 = 10
  rw [GB_cut (sb s) i (by rw [sb_len]; exact hs) hi]
theorem only_str (l : List Nat) (hb : ∀ x ∈ l, x < 256) : Only GBs (fun s => encS (sb s)) l := fun h => by
  obtain ⟨o1, o2⟩ := GB_only l hb h
  refine ⟨?_, o2⟩
  show encS (sb (strB (GB l).1)) = _
  rw [sb_strB _ (by
    intro x hx
    unfold GB at hx
    split at hx
    · cases hx
    · exact hb _ (List.mem_of_mem_drop (List.mem_of_mem_take hx))), o1]
  rfl
theorem rt_dig (d : List Nat) (hd : d.length = 16) : Rt GD id d := fun t => by
  show GD (d ++ t) = (d, d.length, 0)
  rw [GD_ok (by rw [List.length_append]; omega), hd, ← hd, List.take_left]
theorem cut_dig (d : List Nat) (hd : d.length = 16) : Cut GD id d := fun i hi => by
  have hi' : i < d.length := hi
  show (GD (d.take i)).2.2 = 10
  rw [GD_short (by rw [List.length_take]; omega)]
theorem only_dig (l : List Nat) : Only GD id l := fun h => by
  by_cases hl : l.length < 16
  · rw [GD_short hl] at h; cases h
  · rw [GD_ok (by omega)]
    exact ⟨rfl, by simp only; omega⟩
end Go.Proofs.Ytlihndekeaefcaa
