/- Mathematics of rings: keys in order. -/
import Derived.Test.YtcdcnklfcmoiiaaDoorQBR
namespace Go.Proofs.YtcdcnklfcmoiiaaDoor
set_option linter.unusedVariables false
set_option linter.unusedSimpArgs false
open Go.RowKit
/-- A key: party, serial number, secret, from, to. -/
abbrev Rw := Int × Int × ByteArray × Int × Int
abbrev r0 : Rw := (0, 0, ⟨#[]⟩, 0, 0)
def encR (x : Rw) : List Value := [.int .i64 x.1, .int .i64 x.2.1, .string x.2.2.1, .int .i64 x.2.2.2.1, .int .i64 x.2.2.2.2]
abbrev RwA := RowsA 5 encR
theorem encR_len (a : Rw) : (encR a).length = 5 := rfl
theorem encR_one (a : Rw) : ∀ v ∈ encR a, v.oneCell' = true := by
  intro v hv
  simp only [encR, List.mem_cons, List.not_mem_nil, or_false] at hv
  rcases hv with rfl | rfl | rfl | rfl | rfl <;> rfl
theorem RwA.at_ {W : World} {a : Option Addr} {l : List Rw} (h : RwA W a l) {k : Nat} (hk : k < l.length) :
    ∃ b off, a = some ⟨b, off, none⟩ ∧ W.cell? ⟨b, off + k * 5, none⟩ = some (.int .i64 (l.getD k r0).1) ∧ W.cell? ⟨b, off + k * 5 + 1, none⟩ = some (.int .i64 (l.getD k r0).2.1) ∧ W.cell? ⟨b, off + k * 5 + 2, none⟩ = some (.string (l.getD k r0).2.2.1) ∧ W.cell? ⟨b, off + k * 5 + 3, none⟩ = some (.int .i64 (l.getD k r0).2.2.2.1) ∧ W.cell? ⟨b, off + k * 5 + 4, none⟩ = some (.int .i64 (l.getD k r0).2.2.2.2) := by
  rw [getD_at r0 hk]
  obtain ⟨b, off, e, h1⟩ := h k _ (List.getElem?_eq_getElem hk)
  exact ⟨b, off, e, h1 0 _ rfl, h1 1 _ rfl, h1 2 _ rfl, h1 3 _ rfl, h1 4 _ rfl⟩
theorem RwA.cells_ {W : World} {a : Option Addr} {l : List Rw} (h : RwA W a l) {k : Nat} (hk : k < l.length) {b off : Nat} (e : a = some ⟨b, off, none⟩) :
    W.cell? ⟨b, off + k * 5, none⟩ = some (.int .i64 (l.getD k r0).1) ∧ W.cell? ⟨b, off + k * 5 + 1, none⟩ = some (.int .i64 (l.getD k r0).2.1) ∧ W.cell? ⟨b, off + k * 5 + 2, none⟩ = some (.string (l.getD k r0).2.2.1) ∧ W.cell? ⟨b, off + k * 5 + 3, none⟩ = some (.int .i64 (l.getD k r0).2.2.2.1) ∧ W.cell? ⟨b, off + k * 5 + 4, none⟩ = some (.int .i64 (l.getD k r0).2.2.2.2) := by
  obtain ⟨b', off', e', h⟩ := RwA.at_ h hk
  rw [e] at e'
  injection e' with e'
  injection e' with e1 e2 e3
  subst e1; subst e2
  exact h
/-- The list with one more at place i. -/
def insL {α : Type} (l : List α) (i : Nat) (x : α) : List α := l.take i ++ x :: l.drop i
theorem insL_len {α : Type} (l : List α) (i : Nat) (x : α) (h : i ≤ l.length) : (insL l i x).length = l.length + 1 := by simp [insL]; omega
theorem insL_end {α : Type} (l : List α) (x : α) : insL l l.length x = l ++ [x] := by simp [insL]
def cmpI (a b : Int) : Int := if a < b then -1 else if b < a then 1 else 0
theorem cmpI_neg {a b : Int} : cmpI a b < 0 ↔ a < b := by unfold cmpI; split; · simp [*]
                                                          · split <;> simp <;> omega
theorem cmpI_zero {a b : Int} : cmpI a b = 0 ↔ a = b := by unfold cmpI; split; · simp; omega
                                                           · split <;> simp <;> omega
/-- A row against a window and a gateway. -/
def cR (w g : Int) (x : Rw) : Int := if cmpI x.1 w = 0 then cmpI x.2.1 g else cmpI x.1 w
/-- A key against a party. -/
def cW (w : Int) (x : Rw) : Int := cmpI x.1 w
theorem cR_neg {w g : Int} {x : Rw} : cR w g x < 0 ↔ x.1 < w ∨ x.1 = w ∧ x.2.1 < g := by
  unfold cR
  split
  · rename_i h; have h := cmpI_zero.1 h; rw [cmpI_neg]; omega
  · rename_i h; have h2 : ¬ x.1 = w := fun e => h (cmpI_zero.2 e); rw [cmpI_neg]; omega
theorem cR_zero {w g : Int} {x : Rw} : cR w g x = 0 ↔ x.1 = w ∧ x.2.1 = g := by
  unfold cR
  split
  · rename_i h; have h := cmpI_zero.1 h; rw [cmpI_zero]; omega
  · rename_i h; have h2 : ¬ x.1 = w := fun e => h (cmpI_zero.2 e); exact ⟨fun e => absurd e h, fun e => absurd e.1 h2⟩
theorem cW_neg {w : Int} {x : Rw} : cW w x < 0 ↔ x.1 < w := cmpI_neg
theorem cW_zero {w : Int} {x : Rw} : cW w x = 0 ↔ x.1 = w := cmpI_zero
/-- Where an element is, or would be. -/
def posC (c : Rw → Int) : List Rw → Nat
  | [] => 0
  | a :: l => if c a < 0 then posC c l + 1 else 0
theorem posC_le (c : Rw → Int) (l : List Rw) : posC c l ≤ l.length := by
  induction l with
  | nil => simp [posC]
  | cons a l ih => simp only [posC, List.length_cons]; split <;> omega
theorem posC_below (c : Rw → Int) (l : List Rw) (j : Nat) (hj : j < posC c l) : c (l.getD j r0) < 0 := by
  induction l generalizing j with
  | nil => simp [posC] at hj
  | cons a l ih =>
    simp only [posC] at hj
    split at hj
    · cases j with
      | zero => simpa using ‹c a < 0›
      | succ j => simp only [List.getD_cons_succ]; exact ih j (by omega)
    · omega
theorem posC_at (c : Rw → Int) (l : List Rw) (h : posC c l < l.length) : ¬ c (l.getD (posC c l) r0) < 0 := by
  induction l with
  | nil => simp at h
  | cons a l ih =>
    by_cases ha : c a < 0
    · have e : posC c (a :: l) = posC c l + 1 := by simp only [posC]; rw [if_pos ha]
      rw [e] at h ⊢
      simp only [List.getD_cons_succ]
      exact ih (by simpa using h)
    · have e : posC c (a :: l) = 0 := by simp only [posC]; rw [if_neg ha]
      rw [e]; simpa using ha
theorem posC_is (c : Rw → Int) (l : List Rw) (i : Nat) (hi : i ≤ l.length) (h1 : ∀ j, j < i → c (l.getD j r0) < 0) (h2 : i < l.length → ¬ c (l.getD i r0) < 0) : posC c l = i := by
  rcases Nat.lt_trichotomy i (posC c l) with h3 | h3 | h3
  · exact absurd (posC_below c l i h3) (h2 (by have := posC_le c l; omega))
  · exact h3.symm
  · exact absurd (h1 _ h3) (posC_at c l (by omega))
def hasC (c : Rw → Int) (l : List Rw) : Bool := decide (posC c l < l.length ∧ c (l.getD (posC c l) r0) = 0)
theorem hasC_iff (c : Rw → Int) (l : List Rw) : hasC c l = true ↔ posC c l < l.length ∧ c (l.getD (posC c l) r0) = 0 := decide_eq_true_iff
/-- The smaller ones come first. -/
def Mono (c : Rw → Int) (l : List Rw) : Prop := ∀ i j, i ≤ j → j < l.length → c (l.getD j r0) < 0 → c (l.getD i r0) < 0
/-- Rows in order. -/
def ltR (x y : Rw) : Prop := x.1 < y.1 ∨ x.1 = y.1 ∧ x.2.1 < y.2.1
instance (x y : Rw) : Decidable (ltR x y) := by unfold ltR; infer_instance
def OrdR (l : List Rw) : Prop := ∀ i, i + 1 < l.length → ltR (l.getD i r0) (l.getD (i + 1) r0)
theorem OrdR.lt {l : List Rw} (h : OrdR l) {i j : Nat} (hij : i < j) (hj : j < l.length) : ltR (l.getD i r0) (l.getD j r0) := by
  induction j with
  | zero => omega
  | succ j ih =>
    have h1 := h j hj
    rcases Nat.lt_or_ge i j with h2 | h2
    · have h3 := ih h2 (by omega)
      unfold ltR at h1 h3 ⊢
      omega
    · obtain rfl : i = j := by omega
      exact h1
theorem OrdR.mono {l : List Rw} (h : OrdR l) (w g : Int) : Mono (cR w g) l := fun i j hij hj hc => by
  rcases Nat.eq_or_lt_of_le hij with rfl | hlt
  · exact hc
  · have h1 := h.lt hlt hj
    rw [cR_neg] at hc ⊢
    unfold ltR at h1
    omega
theorem getEl {l : List Rw} {k : Nat} (h : k < l.length) : l.getD k r0 = l[k] := by rw [List.getD_eq_getElem?_getD, List.getElem?_eq_getElem h]; rfl
theorem OrdR.pair {l : List Rw} (h : OrdR l) : l.Pairwise ltR := by
  rw [List.pairwise_iff_getElem]
  intro i j hi hj hij
  have := h.lt hij hj
  rwa [getEl hi, getEl hj] at this
theorem pair_ord {l : List Rw} (h : l.Pairwise ltR) : OrdR l := fun i hi => by
  rw [List.pairwise_iff_getElem] at h
  have := h i (i + 1) (by omega) hi (by omega)
  rwa [← getEl, ← getEl] at this
def partyOk (n : Int) : Prop := 1 ≤ n ∧ n ≤ 1073741824
instance (n : Int) : Decidable (partyOk n) := by unfold partyOk; infer_instance
/-- A valid key. -/
def keyOk (x : Rw) : Prop := (1 ≤ x.1 ∧ x.1 ≤ 1073741824) ∧ (1 ≤ x.2.1 ∧ x.2.1 ≤ 1073741824) ∧ (1 ≤ x.2.2.1.size ∧ x.2.2.1.size ≤ 64) ∧ 0 ≤ x.2.2.2.1 ∧ x.2.2.2.1 < x.2.2.2.2 ∧ x.2.2.2.2 ≤ 1099511627776
instance (x : Rw) : Decidable (keyOk x) := by unfold keyOk; infer_instance
/-- A ring. -/
structure RingOk (l : List Rw) : Prop where
  keys : ∀ k, k < l.length → keyOk (l.getD k r0)
  ord : OrdR l
  few : l.length ≤ 1000
instance (l : List Rw) : Decidable (OrdR l) := by unfold OrdR; exact decidable_of_iff (∀ i, i < l.length - 1 → ltR (l.getD i r0) (l.getD (i + 1) r0)) ⟨fun h i hi => h i (by omega), fun h i hi => h i (by omega)⟩
instance (l : List Rw) : Decidable (RingOk l) := decidable_of_iff ((∀ k, k < l.length → keyOk (l.getD k r0)) ∧ OrdR l ∧ l.length ≤ 1000) ⟨fun h => ⟨h.1, h.2.1, h.2.2⟩, fun h => ⟨h.keys, h.ord, h.few⟩⟩
theorem RingOk.mem {l : List Rw} (h : RingOk l) {x : Rw} (hx : x ∈ l) : keyOk x := by
  obtain ⟨i, hi, rfl⟩ := List.mem_iff_getElem.1 hx
  have := h.keys i hi
  rwa [getEl hi] at this
/-- Whether a key counts in a period. -/
def countsP (x : Rw) (lo hi : Int) : Prop := 0 ≤ lo ∧ lo ≤ hi ∧ hi ≤ 1099511627776 ∧ x.2.2.2.1 ≤ lo ∧ hi < x.2.2.2.2
instance (x : Rw) (lo hi : Int) : Decidable (countsP x lo hi) := by unfold countsP; infer_instance
def countsB (x : Rw) (lo hi : Int) : Bool := decide (countsP x lo hi)
/-- Find: the key, or the error. -/
def findL (l : List Rw) (p s : Int) : Rw := if hasC (cR p s) l = true then l.getD (posC (cR p s) l) r0 else r0
def findE (l : List Rw) (p s : Int) : Int := if hasC (cR p s) l = true then 0 else 5
end Go.Proofs.YtcdcnklfcmoiiaaDoor
