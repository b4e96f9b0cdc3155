import Derived.Test.YtcgdhankllphgaaRM
namespace Go.Proofs.Ytcgdhankllphgaa
set_option linter.unusedVariables false
set_option linter.unusedSimpArgs false
set_option linter.unusedSectionVars false
theorem getEl {l : List Rw} {k : Nat} (h : k < l.length) : l.getD k r0 = l[k] := by rw [List.getD_eq_getElem?_getD, List.getElem?_eq_getElem h]; rfl
def outX (x : Rw) : Int := x.2.2.1 - x.2.2.2
def outS (w : Int) : List Rw → Int
  | [] => 0
  | x :: l => (if x.1 = w then outX x else 0) + outS w l
theorem outS_append (w : Int) (a b : List Rw) : outS w (a ++ b) = outS w a + outS w b := by
  induction a with
  | nil => simp [outS]
  | cons x a ih => simp only [List.cons_append, outS, ih]; omega
theorem outS_none {w : Int} {l : List Rw} (h : ∀ x ∈ l, x.1 ≠ w) : outS w l = 0 := by
  induction l with
  | nil => rfl
  | cons x l ih => simp only [outS]; rw [if_neg (h x (by simp)), ih fun y hy => h y (by simp [hy])]; rfl
theorem outS_nonneg {w : Int} {l : List Rw} (h : ∀ x ∈ l, 0 ≤ outX x) : 0 ≤ outS w l := by
  induction l with
  | nil => exact Int.le_refl _
  | cons x l ih =>
    have h1 := h x (by simp)
    have h2 := ih fun y hy => h y (by simp [hy])
    simp only [outS]
    split <;> omega
theorem outK_S (l : List Rw) (w : Int) : ∀ k, k ≤ l.length → outK l w k = outS w (l.take k)
  | 0, _ => by simp [outK, outS]
  | k + 1, h => by
    have ih := outK_S l w k (by omega)
    rw [List.take_succ_eq_append_getElem (by omega), outS_append]
    simp only [outK, outS, ih, getEl (show k < l.length by omega), outX]
    split <;> omega
theorem outL_S (l : List Rw) (w : Int) : outL l w = outS w l := by unfold outL; rw [outK_S l w _ (Nat.le_refl _), List.take_length]
theorem OrdR.pair {l : List Rw} (h : OrdR l) : l.Pairwise ltR := by
  rw [List.pairwise_iff_getElem]
  intro i j hi hj hij
  have := h.lt hij hj
  rwa [getEl hi, getEl hj] at this
theorem pair_ord {l : List Rw} (h : l.Pairwise ltR) : OrdR l := fun i hi => by
  rw [List.pairwise_iff_getElem] at h
  have := h i (i + 1) (by omega) hi (by omega)
  rwa [← getEl, ← getEl] at this
theorem acc_S {l : List Rw} (ord : OrdR l) : ∀ k, k < l.length → acc l (k + 1) = outS (l.getD k r0).1 (l.take (k + 1))
  | 0, h => by
    rw [List.take_succ_eq_append_getElem h, outS_append]
    simp only [acc, outS, getEl h, outX, List.take_zero]
    simp
  | k + 1, h => by
    have ih := acc_S ord k (by omega)
    have h1 := ord k h
    have e : outS (l.getD (k + 1) r0).1 (l.take (k + 1 + 1)) = outS (l.getD (k + 1) r0).1 (l.take (k + 1)) + outX (l.getD (k + 1) r0) := by
      rw [List.take_succ_eq_append_getElem h, outS_append, ← getEl h]
      simp [outS]
    rw [e]
    have e2 : acc l (k + 1 + 1) = (if 0 < k + 1 ∧ (l.getD k r0).1 < (l.getD (k + 1) r0).1 then 0 else acc l (k + 1)) + outX (l.getD (k + 1) r0) := rfl
    rw [e2]
    by_cases hc : (l.getD k r0).1 < (l.getD (k + 1) r0).1
    · rw [if_pos ⟨by omega, hc⟩, outS_none]
      intro x hx
      obtain ⟨i, hi, rfl⟩ := List.mem_iff_getElem.1 hx
      rw [List.length_take] at hi
      have hk : k < l.length := by omega
      have hi2 : i < l.length := by omega
      rw [List.getElem_take, ← getEl hi2]
      rcases Nat.lt_or_ge i k with h2 | h2
      · have := ord.lt h2 hk
        unfold ltR at this
        omega
      · obtain rfl : i = k := by omega
        omega
    · rw [if_neg (fun q => hc q.2), ih]
      unfold ltR at h1
      rw [show (l.getD k r0).1 = (l.getD (k + 1) r0).1 by omega]
structure VOk (cap : Int) (l : List Rw) : Prop where
  rows : ∀ x ∈ l, rowOk x
  ord : l.Pairwise ltR
  sum : ∀ w, outS w l ≤ cap
theorem rowOk.nn {x : Rw} (h : rowOk x) : 0 ≤ outX x := by unfold rowOk at h; unfold outX; omega
theorem OkB.v {cap len : Int} {l : List Rw} (h : OkB cap len l) : VOk cap l := by
  refine ⟨fun x hx => ?_, h.ord.pair, fun w => ?_⟩
  · obtain ⟨i, hi, rfl⟩ := List.mem_iff_getElem.1 hx
    have := (h.rows i hi).1
    rwa [getEl hi] at this
  · have k : ∀ k, k ≤ l.length → outS w (l.take k) ≤ cap := by
      intro k hk
      induction k with
      | zero => have := h.head.1.1; simpa [outS] using this
      | succ k ih =>
        have ih := ih (by omega)
        by_cases hw : (l.getD k r0).1 = w
        · rw [← hw, ← acc_S h.ord k (by omega)]; exact (h.rows k (by omega)).2.2
        · rw [List.take_succ_eq_append_getElem (by omega), outS_append, ← getEl (by omega)]
          simp only [outS]
          rw [if_neg hw]
          omega
    have := k _ (Nat.le_refl _)
    rwa [List.take_length] at this
theorem VOk.b {cap len : Int} {l : List Rw} (h : VOk cap l) (hd : headOk cap len l) : OkB cap len l := by
  refine ⟨hd, fun k hk => ⟨?_, fun h0 => ?_, ?_⟩⟩
  · rw [getEl hk]; exact h.rows _ (List.getElem_mem hk)
  · have := pair_ord h.ord (k - 1) (by omega)
    rwa [show k - 1 + 1 = k by omega] at this
  · rw [acc_S (pair_ord h.ord) k hk]
    have h1 := h.sum (l.getD k r0).1
    have e : outS (l.getD k r0).1 l = outS (l.getD k r0).1 (l.take (k + 1)) + outS (l.getD k r0).1 (l.drop (k + 1)) := by rw [← outS_append, List.take_append_drop]
    have h2 : 0 ≤ outS (l.getD k r0).1 (l.drop (k + 1)) := outS_nonneg fun x hx => (h.rows x (List.mem_of_mem_drop hx)).nn
    omega
def backL (l : List Rw) (w g : Int) : Int := if hasC (cR w g) l = true then (l.getD (posC (cR w g) l) r0).2.2.2 else 0
theorem dealt_mem {l : List Rw} (ord : OrdR l) {x : Rw} (hx : x ∈ l) : hasC (cR x.1 x.2.1) l = true ∧ dealtL l x.1 x.2.1 = x.2.2.1 ∧ backL l x.1 x.2.1 = x.2.2.2 := by
  obtain ⟨i, hi, rfl⟩ := List.mem_iff_getElem.1 hx
  have e : posC (cR l[i].1 l[i].2.1) l = i := posC_is _ _ _ (by omega) (fun j hj => by
    have := ord.lt hj hi
    rw [getEl hi] at this
    rw [cR_neg]; exact this) (fun _ => by rw [getEl hi, cR_neg]; omega)
  have hh : hasC (cR l[i].1 l[i].2.1) l = true := by rw [hasC_iff, e, getEl hi]; exact ⟨hi, cR_zero.2 ⟨rfl, rfl⟩⟩
  unfold dealtL backL
  rw [if_pos hh, if_pos hh, e, getEl hi]
  exact ⟨hh, rfl, rfl⟩
theorem has_at {l : List Rw} {w g : Int} (h : hasC (cR w g) l = true) : ∃ x ∈ l, x.1 = w ∧ x.2.1 = g := by
  obtain ⟨h1, h2⟩ := (hasC_iff _ _).1 h
  rw [getEl h1] at h2
  exact ⟨_, List.getElem_mem h1, cR_zero.1 h2⟩
theorem dealt_none {l : List Rw} {w g : Int} (h : ∀ x ∈ l, ¬ (x.1 = w ∧ x.2.1 = g)) : hasC (cR w g) l = false ∧ dealtL l w g = 0 ∧ backL l w g = 0 := by
  have hh : ¬ hasC (cR w g) l = true := fun q => by obtain ⟨x, hx, e⟩ := has_at q; exact h x hx e
  unfold dealtL backL
  rw [if_neg hh, if_neg hh]
  exact ⟨by simpa using hh, rfl, rfl⟩
theorem split_has {l : List Rw} {w g : Int} (h : hasC (cR w g) l = true) : ∃ A x B, l = A ++ x :: B ∧ A.length = posC (cR w g) l ∧ x.1 = w ∧ x.2.1 = g ∧ l.getD (posC (cR w g) l) r0 = x := by
  obtain ⟨h1, h2⟩ := (hasC_iff _ _).1 h
  refine ⟨l.take (posC (cR w g) l), l[posC (cR w g) l], l.drop (posC (cR w g) l + 1), ?_, by rw [List.length_take]; omega, ?_, ?_, getEl h1⟩
  · rw [← List.drop_eq_getElem_cons h1, List.take_append_drop]
  · rw [getEl h1] at h2; exact (cR_zero.1 h2).1
  · rw [getEl h1] at h2; exact (cR_zero.1 h2).2
theorem split_not {l : List Rw} {w g : Int} (ord : OrdR l) (h : hasC (cR w g) l = false) : ∃ A B, l = A ++ B ∧ A.length = posC (cR w g) l ∧ (∀ x ∈ A, x.1 < w ∨ x.1 = w ∧ x.2.1 < g) ∧ ∀ x ∈ B, w < x.1 ∨ w = x.1 ∧ g < x.2.1 := by
  have hle := posC_le (cR w g) l
  refine ⟨l.take (posC (cR w g) l), l.drop (posC (cR w g) l), (List.take_append_drop _ _).symm, by rw [List.length_take]; omega, fun x hx => ?_, fun x hx => ?_⟩
  · obtain ⟨i, hi, rfl⟩ := List.mem_iff_getElem.1 hx
    rw [List.length_take] at hi
    have := posC_below (cR w g) l i (by omega)
    rw [getEl (by omega)] at this
    rw [List.getElem_take]
    exact cR_neg.1 this
  · obtain ⟨i, hi, rfl⟩ := List.mem_iff_getElem.1 hx
    rw [List.length_drop] at hi
    have hp : posC (cR w g) l < l.length := by omega
    have h1 := posC_at (cR w g) l hp
    have h2 : ¬ cR w g (l.getD (posC (cR w g) l) r0) = 0 := fun q => by
      have := (hasC_iff (cR w g) l).2 ⟨hp, q⟩
      rw [h] at this; cases this
    rw [cR_neg] at h1
    rw [cR_zero] at h2
    rw [List.getElem_drop]
    rcases Nat.eq_zero_or_pos i with rfl | hi0
    · rw [← getEl (by omega)]
      simp only [Nat.add_zero]
      omega
    · have h3 := ord.lt (show posC (cR w g) l < posC (cR w g) l + i by omega) (by omega)
      rw [← getEl (by omega)]
      unfold ltR at h3
      omega
theorem dealt_same {l l' : List Rw} (o : OrdR l) (o' : OrdR l') {v h : Int} (k : ∀ x : Rw, x.1 = v → x.2.1 = h → (x ∈ l ↔ x ∈ l')) : dealtL l v h = dealtL l' v h := by
  by_cases e : ∃ x ∈ l, x.1 = v ∧ x.2.1 = h
  · obtain ⟨x, hx, rfl, rfl⟩ := e
    rw [(dealt_mem o hx).2.1, (dealt_mem o' ((k x rfl rfl).1 hx)).2.1]
  · rw [(dealt_none (fun x hx q => e ⟨x, hx, q⟩)).2.1, (dealt_none (fun x hx q => e ⟨x, (k x q.1 q.2).2 hx, q⟩)).2.1]
theorem repl {cap len : Int} {A B : List Rw} {x y : Rw} (ok : OkB cap len (A ++ x :: B)) (e1 : y.1 = x.1) (e2 : y.2.1 = x.2.1) (hy : rowOk y) (hs : outS x.1 (A ++ x :: B) + (outX y - outX x) ≤ cap) :
    OkB cap len (A ++ y :: B) ∧ (∀ v, outS v (A ++ y :: B) = outS v (A ++ x :: B) + if v = x.1 then outX y - outX x else 0) ∧ (hasC (cR x.1 x.2.1) (A ++ y :: B) = true ∧ dealtL (A ++ y :: B) x.1 x.2.1 = y.2.2.1 ∧ backL (A ++ y :: B) x.1 x.2.1 = y.2.2.2) ∧
    ∀ v h, ¬ (v = x.1 ∧ h = x.2.1) → dealtL (A ++ y :: B) v h = dealtL (A ++ x :: B) v h := by
  have V := ok.v
  have hsum : ∀ v, outS v (A ++ y :: B) = outS v (A ++ x :: B) + if v = x.1 then outX y - outX x else 0 := by
    intro v
    simp only [outS_append, outS, e1]
    split <;> split <;> omega
  have hord : (A ++ y :: B).Pairwise ltR := by
    have h := V.ord
    rw [List.pairwise_append, List.pairwise_cons] at h ⊢
    refine ⟨h.1, ⟨fun z hz => ?_, h.2.1.2⟩, fun z hz u hu => ?_⟩
    · have := h.2.1.1 z hz; unfold ltR at this ⊢; rwa [e1, e2]
    · rcases List.mem_cons.1 hu with rfl | hu
      · have := h.2.2 z hz x (by simp); unfold ltR at this ⊢; rwa [e1, e2]
      · exact h.2.2 z hz u (by simp [hu])
  have OK : OkB cap len (A ++ y :: B) := by
    refine VOk.b ⟨fun z hz => ?_, hord, fun w => ?_⟩ ?_
    · rcases List.mem_append.1 hz with h | h
      · exact V.rows z (by simp [h])
      · rcases List.mem_cons.1 h with rfl | h
        · exact hy
        · exact V.rows z (by simp [h])
    · rw [hsum]
      have := V.sum w
      split
      · rename_i h; subst h; exact hs
      · omega
    · have := ok.head
      unfold headOk at this ⊢
      simpa using this
  refine ⟨OK, hsum, ?_, fun v h hne => ?_⟩
  · have := dealt_mem OK.ord (x := y) (by simp)
    rwa [e1, e2] at this
  · refine dealt_same OK.ord ok.ord fun z h1 h2 => ?_
    have n1 : z ≠ y := fun q => hne (by rw [← h1, ← h2, q]; exact ⟨e1, e2⟩)
    have n2 : z ≠ x := fun q => hne (by rw [← h1, ← h2, q]; exact ⟨rfl, rfl⟩)
    simp [n1, n2]
theorem insr {cap len : Int} {A B : List Rw} {y : Rw} (ok : OkB cap len (A ++ B)) (hA : ∀ x ∈ A, x.1 < y.1 ∨ x.1 = y.1 ∧ x.2.1 < y.2.1) (hB : ∀ x ∈ B, y.1 < x.1 ∨ y.1 = x.1 ∧ y.2.1 < x.2.1) (hy : rowOk y) (hl : (A ++ B).length < 10000) (hs : outS y.1 (A ++ B) + outX y ≤ cap) :
    OkB cap len (A ++ y :: B) ∧ (∀ v, outS v (A ++ y :: B) = outS v (A ++ B) + if v = y.1 then outX y else 0) ∧ (hasC (cR y.1 y.2.1) (A ++ y :: B) = true ∧ dealtL (A ++ y :: B) y.1 y.2.1 = y.2.2.1 ∧ backL (A ++ y :: B) y.1 y.2.1 = y.2.2.2) ∧
    ∀ v h, ¬ (v = y.1 ∧ h = y.2.1) → dealtL (A ++ y :: B) v h = dealtL (A ++ B) v h := by
  have V := ok.v
  have hsum : ∀ v, outS v (A ++ y :: B) = outS v (A ++ B) + if v = y.1 then outX y else 0 := by
    intro v
    simp only [outS_append, outS]
    split <;> split <;> omega
  have hord : (A ++ y :: B).Pairwise ltR := by
    have h := V.ord
    rw [List.pairwise_append] at h
    rw [List.pairwise_append, List.pairwise_cons]
    refine ⟨h.1, ⟨fun z hz => hB z hz, h.2.1⟩, fun z hz u hu => ?_⟩
    rcases List.mem_cons.1 hu with rfl | hu
    · exact hA z hz
    · exact h.2.2 z hz u hu
  have OK : OkB cap len (A ++ y :: B) := by
    refine VOk.b ⟨fun z hz => ?_, hord, fun w => ?_⟩ ?_
    · rcases List.mem_append.1 hz with h | h
      · exact V.rows z (by simp [h])
      · rcases List.mem_cons.1 h with rfl | h
        · exact hy
        · exact V.rows z (by simp [h])
    · rw [hsum]
      have := V.sum w
      split
      · rename_i h; subst h; exact hs
      · omega
    · have := ok.head
      unfold headOk at this ⊢
      refine ⟨this.1, this.2.1, ?_⟩
      simp at hl ⊢
      omega
  refine ⟨OK, hsum, dealt_mem OK.ord (x := y) (by simp), fun v h hne => ?_⟩
  refine dealt_same OK.ord ok.ord fun z h1 h2 => ?_
  have n1 : z ≠ y := fun q => hne (by rw [← h1, ← h2, q]; exact ⟨rfl, rfl⟩)
  simp [n1]
theorem set_mid (A B : List Rw) (x y : Rw) : (A ++ x :: B).set A.length y = A ++ y :: B := by rw [List.set_append_right _ _ (Nat.le_refl _), Nat.sub_self]; rfl
theorem deal_facts {cap len : Int} {l : List Rw} {w g n : Int} (ok : OkB cap len l) (p1 : winOk w) (p2 : gateOk g) (p3 : 0 ≤ n) (h1 : outL l w + n ≤ cap) (h2 : dealtL l w g + n ≤ 1099511627776) (h3 : hasC (cR w g) l = true ∨ l.length < 10000) :
    OkB cap len (dealL l w g n) ∧ (∀ v, outL (dealL l w g n) v = outL l v + if v = w then n else 0) ∧ (hasC (cR w g) (dealL l w g n) = true ∧ dealtL (dealL l w g n) w g = dealtL l w g + n ∧ backL (dealL l w g n) w g = backL l w g) ∧
    (∀ v h, ¬ (v = w ∧ h = g) → dealtL (dealL l w g n) v h = dealtL l v h) ∧ (dealL l w g n).length ≤ l.length + 1 := by
  simp only [outL_S] at h1 ⊢
  cases hh : hasC (cR w g) l
  · obtain ⟨A, B, e, ha, hA, hB⟩ := split_not ok.ord hh
    have hl : l.length < 10000 := by rcases h3 with h | h; · rw [hh] at h; cases h
                                     · exact h
    have ed : dealL l w g n = A ++ (w, g, n, 0) :: B := by
      unfold dealL insL
      rw [if_neg (by rw [hh]; simp), ← ha, e, List.take_left' rfl, List.drop_left' rfl]
    have d0 : dealtL l w g = 0 ∧ backL l w g = 0 := by unfold dealtL backL; rw [hh]; exact ⟨rfl, rfl⟩
    rw [d0.1] at h2 ⊢
    rw [d0.2, ed]
    subst e
    obtain ⟨k1, k2, k3, k4⟩ := insr (y := (w, g, n, 0)) ok hA hB ⟨p1, p2, ⟨p3, by simp only; omega⟩, by simp only; omega⟩ hl (by simp only [outX]; omega)
    refine ⟨k1, fun v => ?_, ⟨k3.1, by rw [k3.2.1]; simp, k3.2.2⟩, k4, by simp; omega⟩
    rw [k2]
    simp only [outX, Int.sub_zero]
  · obtain ⟨A, x, B, e, ha, e1, e2, e3⟩ := split_has hh
    have ed : dealL l w g n = A ++ (x.1, x.2.1, x.2.2.1 + n, x.2.2.2) :: B := by
      unfold dealL
      rw [if_pos hh, e3, ← ha, e, set_mid]
    have d0 : dealtL l w g = x.2.2.1 ∧ backL l w g = x.2.2.2 := by unfold dealtL backL; rw [if_pos hh, if_pos hh, e3]; exact ⟨rfl, rfl⟩
    rw [d0.1] at h2 ⊢
    rw [d0.2, ed]
    subst e; subst e1; subst e2
    have hx : rowOk x := ok.v.rows x (by simp)
    obtain ⟨k1, k2, k3, k4⟩ := repl (y := (x.1, x.2.1, x.2.2.1 + n, x.2.2.2)) ok rfl rfl (by unfold rowOk at hx ⊢; simp only; exact ⟨p1, p2, by omega, by omega⟩) (by simp only [outX]; omega)
    refine ⟨k1, fun v => ?_, k3, k4, by simp⟩
    rw [k2]
    simp only [outX]
    split <;> omega
theorem ret_facts {cap len : Int} {l : List Rw} {w g t : Int} (ok : OkB cap len l) (hh : hasC (cR w g) l = true) (h1 : backL l w g ≤ t) (h2 : t ≤ dealtL l w g) :
    OkB cap len (retL l w g t) ∧ (∀ v, outL (retL l w g t) v = outL l v - if v = w then t - backL l w g else 0) ∧ (hasC (cR w g) (retL l w g t) = true ∧ dealtL (retL l w g t) w g = dealtL l w g ∧ backL (retL l w g t) w g = t) ∧
    (∀ v h, dealtL (retL l w g t) v h = dealtL l v h) ∧ (retL l w g t).length = l.length := by
  simp only [outL_S]
  obtain ⟨A, x, B, e, ha, e1, e2, e3⟩ := split_has hh
  have d0 : dealtL l w g = x.2.2.1 ∧ backL l w g = x.2.2.2 := by unfold dealtL backL; rw [if_pos hh, if_pos hh, e3]; exact ⟨rfl, rfl⟩
  rw [d0.1] at h2 ⊢
  rw [d0.2] at h1 ⊢
  have ed : retL l w g t = A ++ (x.1, x.2.1, x.2.2.1, t) :: B := by
    unfold retL
    rw [if_pos hh, e3, ← ha, e, set_mid, Int.max_eq_right h1]
  rw [ed]
  subst e; subst e1; subst e2
  have hx : rowOk x := ok.v.rows x (by simp)
  have hsm := ok.v.sum x.1
  obtain ⟨k1, k2, k3, k4⟩ := repl (y := (x.1, x.2.1, x.2.2.1, t)) ok rfl rfl (by unfold rowOk at hx ⊢; simp only; exact ⟨hx.1, hx.2.1, hx.2.2.1, by omega, by omega⟩) (by simp only [outX]; omega)
  refine ⟨k1, fun v => ?_, k3, fun v h => ?_, by simp⟩
  · rw [k2]
    simp only [outX]
    split <;> omega
  · by_cases hv : v = x.1 ∧ h = x.2.1
    · obtain ⟨rfl, rfl⟩ := hv
      rw [k3.2.1, d0.1]
    · exact k4 v h hv
def backK (l : List Rw) (w g : Int) : Nat → Int
  | 0 => 0
  | k + 1 => if (l.getD k r0).1 = w ∧ (l.getD k r0).2.1 = g then (l.getD k r0).2.2.2 else backK l w g k
end Go.Proofs.Ytcgdhankllphgaa
