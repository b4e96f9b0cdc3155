import Derived.Test.YtcgdhankllphgaaRMB
import Derived.Test.YtcgdhankllphgaaRP
import Derived.Test.YtcgdhankllphgaaRRV
namespace Go.Proofs.Ytcgdhankllphgaa
set_option linter.unusedVariables false
set_option linter.unusedSimpArgs false
set_option linter.unusedSectionVars false
open Go.RowKit
def coinV (x : Rw) : Prop := winOk x.1 ∧ (0 ≤ x.2.1 ∧ x.2.1 ≤ 1099511627776) ∧ (0 ≤ x.2.2.1 ∧ x.2.2.1 ≤ x.2.1) ∧ 0 ≤ x.2.2.2 ∧ x.2.2.2 ≤ x.2.1 - x.2.2.1
def ltW (x y : Rw) : Prop := x.1 < y.1
structure VPok (l : List Rw) : Prop where
  rows : ∀ x ∈ l, coinV x
  ord : l.Pairwise ltW
theorem OkP.v {len : Int} {l : List Rw} (h : OkP len l) : VPok l := by
  refine ⟨fun x hx => ?_, ?_⟩
  · obtain ⟨i, hi, rfl⟩ := List.mem_iff_getElem.1 hx
    have := h.rows i hi
    rw [getEl hi] at this
    exact ⟨this.1, this.2.2⟩
  · rw [List.pairwise_iff_getElem]
    intro i j hi hj hij
    have := h.ord.lt hij hj
    rwa [getEl hi, getEl hj] at this
theorem VPok.w {l : List Rw} (h : VPok l) : OrdW l := fun i hi => by
  have h1 := h.ord
  rw [List.pairwise_iff_getElem] at h1
  have := h1 i (i + 1) (by omega) hi (by omega)
  rw [getEl (by omega), getEl hi]
  exact this
theorem VPok.p {len : Int} {l : List Rw} (h : VPok l) (hd : headP len l) : OkP len l := by
  refine ⟨hd, fun k hk => ?_⟩
  have h1 := h.rows _ (List.getElem_mem hk)
  rw [getEl hk]
  refine ⟨h1.1, ?_, h1.2⟩
  cases k with
  | zero => have := h1.1; unfold winOk at this; simp only [prevW]; omega
  | succ k => have := h.w k hk; rw [getEl hk] at this; exact this
theorem coin_mem {l : List Rw} (ord : OrdW l) {x : Rw} (hx : x ∈ l) : hasC (cW x.1) l = true ∧ coinL l x.1 = x := by
  obtain ⟨i, hi, rfl⟩ := List.mem_iff_getElem.1 hx
  have e : posC (cW l[i].1) l = i := posC_is _ _ _ (by omega) (fun j hj => by
    have := ord.lt hj hi
    rw [getEl hi] at this
    rw [cW_neg]; exact this) (fun _ => by rw [getEl hi, cW_neg]; omega)
  have hh : hasC (cW l[i].1) l = true := by rw [hasC_iff, e, getEl hi]; exact ⟨hi, cW_zero.2 rfl⟩
  unfold coinL
  rw [if_pos hh, e, getEl hi]
  exact ⟨hh, rfl⟩
theorem csplit_has {l : List Rw} {w : Int} (h : hasC (cW w) l = true) : ∃ A x B, l = A ++ x :: B ∧ A.length = posC (cW w) l ∧ x.1 = w ∧ l.getD (posC (cW w) l) r0 = x := by
  obtain ⟨h1, h2⟩ := (hasC_iff _ _).1 h
  refine ⟨l.take (posC (cW w) l), l[posC (cW w) l], l.drop (posC (cW w) l + 1), ?_, by rw [List.length_take]; omega, ?_, getEl h1⟩
  · rw [← List.drop_eq_getElem_cons h1, List.take_append_drop]
  · rw [getEl h1] at h2; exact cW_zero.1 h2
theorem csplit_not {l : List Rw} {w : Int} (ord : OrdW l) (h : hasC (cW w) l = false) : ∃ A B, l = A ++ B ∧ A.length = posC (cW w) l ∧ (∀ x ∈ A, x.1 < w) ∧ ∀ x ∈ B, w < x.1 := by
  have hle := posC_le (cW w) l
  refine ⟨l.take (posC (cW w) l), l.drop (posC (cW w) l), (List.take_append_drop _ _).symm, by rw [List.length_take]; omega, fun x hx => ?_, fun x hx => ?_⟩
  · obtain ⟨i, hi, rfl⟩ := List.mem_iff_getElem.1 hx
    rw [List.length_take] at hi
    have := posC_below (cW w) l i (by omega)
    rw [getEl (by omega)] at this
    rw [List.getElem_take]
    exact cW_neg.1 this
  · obtain ⟨i, hi, rfl⟩ := List.mem_iff_getElem.1 hx
    rw [List.length_drop] at hi
    have hp : posC (cW w) l < l.length := by omega
    have h1 := posC_at (cW w) l hp
    have h2 : ¬ cW w (l.getD (posC (cW w) l) r0) = 0 := fun q => by
      have := (hasC_iff (cW w) l).2 ⟨hp, q⟩
      rw [h] at this; cases this
    rw [cW_neg] at h1
    rw [cW_zero] at h2
    rw [List.getElem_drop]
    rcases Nat.eq_zero_or_pos i with rfl | hi0
    · rw [← getEl (by omega)]
      simp only [Nat.add_zero]
      omega
    · have h3 := ord.lt (show posC (cW w) l < posC (cW w) l + i by omega) (by omega)
      rw [← getEl (by omega)]
      omega
theorem with_facts {len : Int} {l : List Rw} {y : Rw} (ok : OkP len l) (hy : coinV y) (hl : l.length < 10000) (he : y ≠ (y.1, 0, 0, 0)) :
    OkP len (withL l y) ∧ coinL (withL l y) y.1 = y ∧ (withL l y).length ≤ l.length + 1 := by
  have V := ok.v
  cases hh : hasC (cW y.1) l
  · obtain ⟨A, B, e, ha, hA, hB⟩ := csplit_not ok.ord hh
    have ed : withL l y = A ++ y :: B := by
      unfold withL insL
      rw [if_neg (by rw [hh]; simp), if_neg he, ← ha, e, List.take_left' rfl, List.drop_left' rfl]
    rw [ed]
    subst e
    have V2 : VPok (A ++ y :: B) := by
      refine ⟨fun z hz => ?_, ?_⟩
      · rcases List.mem_append.1 hz with h | h
        · exact V.rows z (by simp [h])
        · rcases List.mem_cons.1 h with rfl | h
          · exact hy
          · exact V.rows z (by simp [h])
      · have h := V.ord
        rw [List.pairwise_append] at h
        rw [List.pairwise_append, List.pairwise_cons]
        refine ⟨h.1, ⟨fun z hz => hB z hz, h.2.1⟩, fun z hz u hu => ?_⟩
        rcases List.mem_cons.1 hu with rfl | hu
        · exact hA z hz
        · exact h.2.2 z hz u hu
    have hd : headP len (A ++ y :: B) := by
      have := ok.head
      unfold headP at this ⊢
      refine ⟨this.1, ?_⟩
      simp at hl ⊢
      omega
    exact ⟨V2.p hd, (coin_mem V2.w (by simp)).2, by simp; omega⟩
  · obtain ⟨A, x, B, e, ha, e1, e3⟩ := csplit_has hh
    have ed : withL l y = A ++ y :: B := by
      unfold withL
      rw [if_pos hh, ← ha, e, set_mid]
    rw [ed]
    subst e
    have V2 : VPok (A ++ y :: B) := by
      refine ⟨fun z hz => ?_, ?_⟩
      · rcases List.mem_append.1 hz with h | h
        · exact V.rows z (by simp [h])
        · rcases List.mem_cons.1 h with rfl | h
          · exact hy
          · exact V.rows z (by simp [h])
      · have h := V.ord
        rw [List.pairwise_append, List.pairwise_cons] at h ⊢
        refine ⟨h.1, ⟨fun z hz => ?_, h.2.1.2⟩, fun z hz u hu => ?_⟩
        · have := h.2.1.1 z hz; unfold ltW at this ⊢; omega
        · rcases List.mem_cons.1 hu with rfl | hu
          · have := h.2.2 z hz x (by simp); unfold ltW at this ⊢; omega
          · exact h.2.2 z hz u (by simp [hu])
    have hd : headP len (A ++ y :: B) := by
      have := ok.head
      unfold headP at this ⊢
      simpa using this
    exact ⟨V2.p hd, (coin_mem V2.w (by simp)).2, by simp⟩
theorem with_same {l : List Rw} {w : Int} : withL l (coinL l w) = l := by
  have hw := coinL_w (l := l) w
  cases hh : hasC (cW w) l
  · have e : coinL l w = (w, 0, 0, 0) := by unfold coinL; rw [hh]; rfl
    rw [e]
    unfold withL
    simp only
    rw [if_neg (by rw [hh]; simp), if_pos trivial]
  · have h1 := (hasC_iff _ _).1 hh
    unfold withL
    rw [hw, if_pos hh]
    have e : coinL l w = l[posC (cW w) l]'h1.1 := by unfold coinL; rw [if_pos hh]; exact getEl h1.1
    rw [e]
    exact List.set_getElem_self h1.1
theorem coinV_coin {len : Int} {l : List Rw} (ok : OkP len l) {w : Int} (p1 : winOk w) : coinV (coinL l w) := by
  have h := coinL_ok ok w
  exact ⟨by rw [coinL_w]; exact p1, h⟩
theorem recv_old {l : List Rw} {w t : Int} (h : t ≤ (coinL l w).2.1) : recvL l w t = l := by
  unfold recvL
  have ex : recvX (coinL l w) t = coinL l w := by unfold recvX; rw [if_neg (by omega)]
  rw [ex, with_same]
theorem ret_old {l : List Rw} {w g t : Int} (h : hasC (cR w g) l = true → t ≤ backL l w g) : retL l w g t = l := by
  unfold retL
  cases hh : hasC (cR w g) l
  · rfl
  · have h1 := (hasC_iff _ _).1 hh
    have h2 := h hh
    unfold backL at h2
    rw [if_pos hh] at h2
    rw [if_pos rfl, Int.max_eq_left h2]
    rw [getEl h1.1]
    exact List.set_getElem_self h1.1
end Go.Proofs.Ytcgdhankllphgaa
