import Derived.Test.YtcgdhankllphgaaRBR
namespace Go.Proofs.Ytcgdhankllphgaa
set_option linter.unusedVariables false
set_option linter.unusedSimpArgs false
set_option linter.unusedSectionVars false
open Go.RowKit
abbrev Rw := Int × Int × Int × Int
abbrev r0 : Rw := (0, 0, 0, 0)
def encR (x : Rw) : List Value := [.int .i64 x.1, .int .i64 x.2.1, .int .i64 x.2.2.1, .int .i64 x.2.2.2]
abbrev RwA := RowsA 4 encR
theorem encR_len (a : Rw) : (encR a).length = 4 := rfl
theorem encR_one (a : Rw) : ∀ v ∈ encR a, v.oneCell' = true := by
  intro v hv
  simp only [encR, List.mem_cons, List.not_mem_nil, or_false] at hv
  rcases hv with rfl | rfl | rfl | rfl <;> rfl
theorem RwA.at_ {W : World} {a : Option Addr} {l : List Rw} (h : RwA W a l) {k : Nat} (hk : k < l.length) :
    ∃ b off, a = some ⟨b, off, none⟩ ∧ W.cell? ⟨b, off + k * 4, none⟩ = some (.int .i64 (l.getD k r0).1) ∧ W.cell? ⟨b, off + k * 4 + 1, none⟩ = some (.int .i64 (l.getD k r0).2.1) ∧ W.cell? ⟨b, off + k * 4 + 2, none⟩ = some (.int .i64 (l.getD k r0).2.2.1) ∧ W.cell? ⟨b, off + k * 4 + 3, none⟩ = some (.int .i64 (l.getD k r0).2.2.2) := by
  rw [getD_at r0 hk]
  obtain ⟨b, off, e, h1⟩ := h k _ (List.getElem?_eq_getElem hk)
  exact ⟨b, off, e, h1 0 _ rfl, h1 1 _ rfl, h1 2 _ rfl, h1 3 _ rfl⟩
def insL {α : Type} (l : List α) (i : Nat) (x : α) : List α := l.take i ++ x :: l.drop i
theorem insL_len {α : Type} (l : List α) (i : Nat) (x : α) (h : i ≤ l.length) : (insL l i x).length = l.length + 1 := by simp [insL]; omega
theorem insL_end {α : Type} (l : List α) (x : α) : insL l l.length x = l ++ [x] := by simp [insL]
def cmpI (a b : Int) : Int := if a < b then -1 else if b < a then 1 else 0
theorem cmpI_neg {a b : Int} : cmpI a b < 0 ↔ a < b := by unfold cmpI; split; · simp [*]
                                                          · split <;> simp <;> omega
theorem cmpI_zero {a b : Int} : cmpI a b = 0 ↔ a = b := by unfold cmpI; split; · simp; omega
                                                           · split <;> simp <;> omega
def cR (w g : Int) (x : Rw) : Int := if cmpI x.1 w = 0 then cmpI x.2.1 g else cmpI x.1 w
def cW (w : Int) (x : Rw) : Int := cmpI x.1 w
theorem cR_neg {w g : Int} {x : Rw} : cR w g x < 0 ↔ x.1 < w ∨ x.1 = w ∧ x.2.1 < g := by
  unfold cR
  split
  · rename_i h; have h := cmpI_zero.1 h; rw [cmpI_neg]; omega
  · rename_i h; have h2 : ¬ x.1 = w := fun e => h (cmpI_zero.2 e); rw [cmpI_neg]; omega
theorem cR_zero {w g : Int} {x : Rw} : cR w g x = 0 ↔ x.1 = w ∧ x.2.1 = g := by
  unfold cR
  split
  · rename_i h; have h := cmpI_zero.1 h; rw [cmpI_zero]; omega
  · rename_i h; have h2 : ¬ x.1 = w := fun e => h (cmpI_zero.2 e); exact ⟨fun e => absurd e h, fun e => absurd e.1 h2⟩
theorem cW_neg {w : Int} {x : Rw} : cW w x < 0 ↔ x.1 < w := cmpI_neg
theorem cW_zero {w : Int} {x : Rw} : cW w x = 0 ↔ x.1 = w := cmpI_zero
def posC (c : Rw → Int) : List Rw → Nat
  | [] => 0
  | a :: l => if c a < 0 then posC c l + 1 else 0
theorem posC_le (c : Rw → Int) (l : List Rw) : posC c l ≤ l.length := by
  induction l with
  | nil => simp [posC]
  | cons a l ih => simp only [posC, List.length_cons]; split <;> omega
theorem posC_below (c : Rw → Int) (l : List Rw) (j : Nat) (hj : j < posC c l) : c (l.getD j r0) < 0 := by
  induction l generalizing j with
  | nil => simp [posC] at hj
  | cons a l ih =>
    simp only [posC] at hj
    split at hj
    · cases j with
      | zero => simpa using ‹c a < 0›
      | succ j => simp only [List.getD_cons_succ]; exact ih j (by omega)
    · omega
theorem posC_at (c : Rw → Int) (l : List Rw) (h : posC c l < l.length) : ¬ c (l.getD (posC c l) r0) < 0 := by
  induction l with
  | nil => simp at h
  | cons a l ih =>
    by_cases ha : c a < 0
    · have e : posC c (a :: l) = posC c l + 1 := by simp only [posC]; rw [if_pos ha]
      rw [e] at h ⊢
      simp only [List.getD_cons_succ]
      exact ih (by simpa using h)
    · have e : posC c (a :: l) = 0 := by simp only [posC]; rw [if_neg ha]
      rw [e]; simpa using ha
theorem posC_is (c : Rw → Int) (l : List Rw) (i : Nat) (hi : i ≤ l.length) (h1 : ∀ j, j < i → c (l.getD j r0) < 0) (h2 : i < l.length → ¬ c (l.getD i r0) < 0) : posC c l = i := by
  rcases Nat.lt_trichotomy i (posC c l) with h3 | h3 | h3
  · exact absurd (posC_below c l i h3) (h2 (by have := posC_le c l; omega))
  · exact h3.symm
  · exact absurd (h1 _ h3) (posC_at c l (by omega))
def hasC (c : Rw → Int) (l : List Rw) : Bool := decide (posC c l < l.length ∧ c (l.getD (posC c l) r0) = 0)
theorem hasC_iff (c : Rw → Int) (l : List Rw) : hasC c l = true ↔ posC c l < l.length ∧ c (l.getD (posC c l) r0) = 0 := decide_eq_true_iff
def Mono (c : Rw → Int) (l : List Rw) : Prop := ∀ i j, i ≤ j → j < l.length → c (l.getD j r0) < 0 → c (l.getD i r0) < 0
def ltR (x y : Rw) : Prop := x.1 < y.1 ∨ x.1 = y.1 ∧ x.2.1 < y.2.1
instance (x y : Rw) : Decidable (ltR x y) := by unfold ltR; infer_instance
def OrdR (l : List Rw) : Prop := ∀ i, i + 1 < l.length → ltR (l.getD i r0) (l.getD (i + 1) r0)
theorem OrdR.lt {l : List Rw} (h : OrdR l) {i j : Nat} (hij : i < j) (hj : j < l.length) : ltR (l.getD i r0) (l.getD j r0) := by
  induction j with
  | zero => omega
  | succ j ih =>
    have h1 := h j hj
    rcases Nat.lt_or_ge i j with h2 | h2
    · have h3 := ih h2 (by omega)
      unfold ltR at h1 h3 ⊢
      omega
    · obtain rfl : i = j := by omega
      exact h1
theorem OrdR.mono {l : List Rw} (h : OrdR l) (w g : Int) : Mono (cR w g) l := fun i j hij hj hc => by
  rcases Nat.eq_or_lt_of_le hij with rfl | hlt
  · exact hc
  · have h1 := h.lt hlt hj
    rw [cR_neg] at hc ⊢
    unfold ltR at h1
    omega
def OrdW (l : List Rw) : Prop := ∀ i, i + 1 < l.length → (l.getD i r0).1 < (l.getD (i + 1) r0).1
theorem OrdW.lt {l : List Rw} (h : OrdW l) {i j : Nat} (hij : i < j) (hj : j < l.length) : (l.getD i r0).1 < (l.getD j r0).1 := by
  induction j with
  | zero => omega
  | succ j ih =>
    have h1 := h j hj
    rcases Nat.lt_or_ge i j with h2 | h2
    · have h3 := ih h2 (by omega)
      omega
    · obtain rfl : i = j := by omega
      exact h1
theorem OrdW.mono {l : List Rw} (h : OrdW l) (w : Int) : Mono (cW w) l := fun i j hij hj hc => by
  rcases Nat.eq_or_lt_of_le hij with rfl | hlt
  · exact hc
  · have h1 := h.lt hlt hj
    rw [cW_neg] at hc ⊢
    omega
def winOk (w : Int) : Prop := 0 ≤ w ∧ w ≤ 1099511627776
def gateOk (g : Int) : Prop := 1 ≤ g ∧ g ≤ 1073741824
instance (w : Int) : Decidable (winOk w) := by unfold winOk; infer_instance
instance (w : Int) : Decidable (gateOk w) := by unfold gateOk; infer_instance
def rowOk (x : Rw) : Prop := winOk x.1 ∧ gateOk x.2.1 ∧ (0 ≤ x.2.2.1 ∧ x.2.2.1 ≤ 1099511627776) ∧ 0 ≤ x.2.2.2 ∧ x.2.2.2 ≤ x.2.2.1
instance (x : Rw) : Decidable (rowOk x) := by unfold rowOk; infer_instance
def acc (l : List Rw) : Nat → Int
  | 0 => 0
  | k + 1 => (if 0 < k ∧ (l.getD (k - 1) r0).1 < (l.getD k r0).1 then 0 else acc l k) + ((l.getD k r0).2.2.1 - (l.getD k r0).2.2.2)
def stepOk (cap : Int) (l : List Rw) (k : Nat) : Prop := rowOk (l.getD k r0) ∧ (0 < k → ltR (l.getD (k - 1) r0) (l.getD k r0)) ∧ acc l (k + 1) ≤ cap
instance (cap : Int) (l : List Rw) (k : Nat) : Decidable (stepOk cap l k) := by unfold stepOk; infer_instance
def headOk (cap len : Int) (l : List Rw) : Prop := (0 ≤ cap ∧ cap ≤ 1073741824) ∧ (1 ≤ len ∧ len ≤ 3600000) ∧ l.length ≤ 10000
instance (cap len : Int) (l : List Rw) : Decidable (headOk cap len l) := by unfold headOk; infer_instance
structure OkB (cap len : Int) (l : List Rw) : Prop where
  head : headOk cap len l
  rows : ∀ k, k < l.length → stepOk cap l k
instance (cap len : Int) (l : List Rw) : Decidable (OkB cap len l) := decidable_of_iff (headOk cap len l ∧ ∀ k, k < l.length → stepOk cap l k) ⟨fun h => ⟨h.1, h.2⟩, fun h => ⟨h.1, h.2⟩⟩
theorem OkB.ord {cap len : Int} {l : List Rw} (h : OkB cap len l) : OrdR l := fun i hi => by
  have := (h.rows (i + 1) hi).2.1 (by omega)
  simpa using this
theorem acc_bd {l : List Rw} {cap : Int} {k : Nat} (h0 : 0 ≤ cap) (h : ∀ j, j < k → stepOk cap l j) : 0 ≤ acc l k ∧ acc l k ≤ cap := by
  induction k with
  | zero => exact ⟨Int.le_refl _, h0⟩
  | succ k ih =>
    have h1 := ih fun j hj => h j (by omega)
    have h2 := h k (by omega)
    refine ⟨?_, h2.2.2⟩
    have h3 := h2.1
    unfold rowOk at h3
    simp only [acc]
    split <;> omega
def outK (l : List Rw) (w : Int) : Nat → Int
  | 0 => 0
  | k + 1 => if (l.getD k r0).1 = w then outK l w k + ((l.getD k r0).2.2.1 - (l.getD k r0).2.2.2) else outK l w k
def outL (l : List Rw) (w : Int) : Int := outK l w l.length
theorem outK_bd {cap len : Int} {l : List Rw} (h : OkB cap len l) (w : Int) : ∀ k, k ≤ l.length → 0 ≤ outK l w k ∧ outK l w k ≤ k * 1099511627776
  | 0, _ => by simp [outK]
  | k + 1, hk => by
    have ih := outK_bd h w k (by omega)
    have h1 := (h.rows k (by omega)).1
    unfold rowOk at h1
    simp only [outK]
    push_cast
    split <;> omega
def dealtL (l : List Rw) (w g : Int) : Int := if hasC (cR w g) l = true then (l.getD (posC (cR w g) l) r0).2.2.1 else 0
def dealL (l : List Rw) (w g n : Int) : List Rw :=
  if hasC (cR w g) l = true then l.set (posC (cR w g) l) ((l.getD (posC (cR w g) l) r0).1, (l.getD (posC (cR w g) l) r0).2.1, (l.getD (posC (cR w g) l) r0).2.2.1 + n, (l.getD (posC (cR w g) l) r0).2.2.2)
  else insL l (posC (cR w g) l) (w, g, n, 0)
def retL (l : List Rw) (w g t : Int) : List Rw :=
  if hasC (cR w g) l = true then l.set (posC (cR w g) l) ((l.getD (posC (cR w g) l) r0).1, (l.getD (posC (cR w g) l) r0).2.1, (l.getD (posC (cR w g) l) r0).2.2.1, max (l.getD (posC (cR w g) l) r0).2.2.2 t) else l
def forgetL (l : List Rw) (len lo : Int) : List Rw := l.filter fun x => ! decide ((x.1 + 1) * len ≤ lo)
def prevW (l : List Rw) : Nat → Int
  | 0 => -1
  | k + 1 => (l.getD k r0).1
def coinOk (p : Int) (x : Rw) : Prop := winOk x.1 ∧ p < x.1 ∧ (0 ≤ x.2.1 ∧ x.2.1 ≤ 1099511627776) ∧ (0 ≤ x.2.2.1 ∧ x.2.2.1 ≤ x.2.1) ∧ 0 ≤ x.2.2.2 ∧ x.2.2.2 ≤ x.2.1 - x.2.2.1
instance (p : Int) (x : Rw) : Decidable (coinOk p x) := by unfold coinOk; infer_instance
def headP (len : Int) (l : List Rw) : Prop := (1 ≤ len ∧ len ≤ 3600000) ∧ l.length ≤ 10000
instance (len : Int) (l : List Rw) : Decidable (headP len l) := by unfold headP; infer_instance
structure OkP (len : Int) (l : List Rw) : Prop where
  head : headP len l
  rows : ∀ k, k < l.length → coinOk (prevW l k) (l.getD k r0)
instance (len : Int) (l : List Rw) : Decidable (OkP len l) := decidable_of_iff (headP len l ∧ ∀ k, k < l.length → coinOk (prevW l k) (l.getD k r0)) ⟨fun h => ⟨h.1, h.2⟩, fun h => ⟨h.1, h.2⟩⟩
theorem OkP.ord {len : Int} {l : List Rw} (h : OkP len l) : OrdW l := fun i hi => (h.rows (i + 1) hi).2.1
def coinL (l : List Rw) (w : Int) : Rw := if hasC (cW w) l = true then l.getD (posC (cW w) l) r0 else (w, 0, 0, 0)
def withL (l : List Rw) (c : Rw) : List Rw := if hasC (cW c.1) l = true then l.set (posC (cW c.1) l) c else if c = (c.1, 0, 0, 0) then l else insL l (posC (cW c.1) l) c
end Go.Proofs.Ytcgdhankllphgaa
