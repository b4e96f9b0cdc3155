import Derived.Test.YteblnmhaohbkkaaDoorRBR
namespace Go.Proofs.YteblnmhaohbkkaaDoor
set_option linter.unusedVariables false
set_option linter.unusedSimpArgs false
set_option linter.unusedSectionVars false
section
namespace Le
open Go.RowKit
abbrev Gr := Int × Int × Int
def encG (x : Gr) : List Value := [.int .i64 x.1, .int .i64 x.2.1, .int .i64 x.2.2]
abbrev g0 : Gr := (0, 0, 0)
abbrev GrA := RowsA 3 encG
theorem encG_len (a : Gr) : (encG a).length = 3 := rfl
theorem encG_one (a : Gr) : ∀ v ∈ encG a, v.oneCell' = true := by
  intro v hv
  simp only [encG, List.mem_cons, List.not_mem_nil, or_false] at hv
  rcases hv with rfl | rfl | rfl <;> rfl
theorem at_ {W : World} {a : Option Addr} {l : List Gr} (h : GrA W a l) {k : Nat} (hk : k < l.length) :
    ∃ b off, a = some ⟨b, off, none⟩ ∧ W.cell? ⟨b, off + k * 3, none⟩ = some (.int .i64 (l.getD k g0).1) ∧ W.cell? ⟨b, off + k * 3 + 1, none⟩ = some (.int .i64 (l.getD k g0).2.1) ∧ W.cell? ⟨b, off + k * 3 + 2, none⟩ = some (.int .i64 (l.getD k g0).2.2) := by
  obtain ⟨b, off, e, q⟩ := h k (l.getD k g0) (by rw [List.getD_eq_getElem?_getD, List.getElem?_eq_getElem hk]; rfl)
  exact ⟨b, off, e, q 0 _ rfl, q 1 _ rfl, q 2 _ rfl⟩
def insL {α : Type} (l : List α) (i : Nat) (x : α) : List α := l.take i ++ x :: l.drop i
theorem insL_len {α : Type} (l : List α) (i : Nat) (x : α) (h : i ≤ l.length) : (insL l i x).length = l.length + 1 := by simp [insL]; omega
theorem insL_end {α : Type} (l : List α) (x : α) : insL l l.length x = l ++ [x] := by simp [insL]
def rowOk (la : Int) (x : Gr) : Prop := (0 ≤ x.1 ∧ x.1 < 64) ∧ (0 ≤ x.2.1 ∧ x.2.1 ≤ la) ∧ 0 ≤ x.2.2 ∧ x.2.2 ≤ 1099511627776
instance (la : Int) (x : Gr) : Decidable (rowOk la x) := by unfold rowOk; infer_instance
def OrdG (l : List Gr) : Prop := ∀ i, i + 1 < l.length → (l.getD i g0).1 < (l.getD (i + 1) g0).1
instance (l : List Gr) : Decidable (OrdG l) := decidable_of_iff (∀ i, i < l.length - 1 → (l.getD i g0).1 < (l.getD (i + 1) g0).1) ⟨fun h i hi => h i (by omega), fun h i hi => h i (by omega)⟩
structure GsOk (la mo : Int) (l : List Gr) : Prop where
  la0 : 0 ≤ la ∧ la ≤ 1099511627776
  mo1 : 1 ≤ mo ∧ mo ≤ 3600000
  rows : ∀ k, k < l.length → rowOk la (l.getD k g0)
  ord : OrdG l
instance (la mo : Int) (l : List Gr) : Decidable (GsOk la mo l) := decidable_of_iff ((0 ≤ la ∧ la ≤ 1099511627776) ∧ (1 ≤ mo ∧ mo ≤ 3600000) ∧ (∀ k, k < l.length → rowOk la (l.getD k g0)) ∧ OrdG l) ⟨fun h => ⟨h.1, h.2.1, h.2.2.1, h.2.2.2⟩, fun h => ⟨h.la0, h.mo1, h.rows, h.ord⟩⟩
def validB (la mo : Int) (l : List Gr) : Bool := decide (GsOk la mo l)
theorem OrdG.lt {l : List Gr} (h : OrdG l) {i j : Nat} (hij : i < j) (hj : j < l.length) : (l.getD i g0).1 < (l.getD j g0).1 := by
  induction j with
  | zero => omega
  | succ j ih =>
    rcases Nat.lt_or_ge i j with h1 | h1
    · have := ih h1 (by omega)
      have := h j hj
      omega
    · obtain rfl : i = j := by omega
      exact h i hj
theorem OrdG.ge {l : List Gr} (h : OrdG l) (h0 : ∀ k, k < l.length → 0 ≤ (l.getD k g0).1) : ∀ k, k < l.length → (k : Int) ≤ (l.getD k g0).1 := by
  intro k
  induction k with
  | zero => intro hk; simpa using h0 0 hk
  | succ k ih =>
    intro hk
    have := ih (by omega)
    have := h k hk
    omega
theorem GsOk.few {la mo : Int} {l : List Gr} (h : GsOk la mo l) : l.length ≤ 64 := by
  rcases Nat.eq_zero_or_pos l.length with h0 | h0
  · omega
  · have h1 := h.ord.ge (fun k hk => (h.rows k hk).1.1) (l.length - 1) (by omega)
    have h2 := (h.rows (l.length - 1) (by omega)).1.2
    omega
theorem valid_row {la mo : Int} {l : List Gr} {k : Nat} (hk : k < l.length) (h : ¬ rowOk la (l.getD k g0) ∨ 0 < k ∧ ¬ (l.getD (k - 1) g0).1 < (l.getD k g0).1) : validB la mo l = false := by
  refine decide_eq_false fun q => ?_
  rcases h with h | ⟨h1, h2⟩
  · exact h (q.rows k hk)
  · have := q.ord (k - 1) (by omega)
    rw [show k - 1 + 1 = k by omega] at this
    exact h2 this
theorem valid_end {la mo : Int} {l : List Gr} (h0 : (0 ≤ la ∧ la ≤ 1099511627776) ∧ 1 ≤ mo ∧ mo ≤ 3600000) (h : ∀ j, j < l.length → rowOk la (l.getD j g0) ∧ (0 < j → (l.getD (j - 1) g0).1 < (l.getD j g0).1)) : validB la mo l = true := by
  refine decide_eq_true ⟨h0.1, h0.2, fun k hk => (h k hk).1, fun i hi => ?_⟩
  have := (h (i + 1) hi).2 (by omega)
  rwa [Nat.add_sub_cancel] at this
theorem valid_head {la mo : Int} {l : List Gr} (h : ¬ ((0 ≤ la ∧ la ≤ 1099511627776) ∧ 1 ≤ mo ∧ mo ≤ 3600000)) : validB la mo l = false := decide_eq_false fun q => h ⟨q.la0, q.mo1⟩
def posG (n : Int) : List Gr → Nat
  | [] => 0
  | a :: l => if a.1 < n then posG n l + 1 else 0
theorem posG_le (n : Int) (l : List Gr) : posG n l ≤ l.length := by
  induction l with
  | nil => simp [posG]
  | cons a l ih => simp only [posG, List.length_cons]; split <;> omega
theorem posG_below (n : Int) (l : List Gr) (j : Nat) (hj : j < posG n l) : (l.getD j g0).1 < n := by
  induction l generalizing j with
  | nil => simp [posG] at hj
  | cons a l ih =>
    simp only [posG] at hj
    split at hj
    · rename_i h
      cases j with
      | zero => simpa using h
      | succ j => simpa using ih j (by omega)
    · omega
theorem posG_at (n : Int) (l : List Gr) (h : posG n l < l.length) : ¬ (l.getD (posG n l) g0).1 < n := by
  induction l with
  | nil => simp at h
  | cons a l ih =>
    simp only [posG] at h ⊢
    split at h
    · rename_i h1
      rw [if_pos h1]
      simpa using ih (by simpa using h)
    · rename_i h1
      rw [if_neg h1]
      simpa using h1
theorem posG_is (n : Int) (l : List Gr) (i : Nat) (hi : i ≤ l.length) (h1 : ∀ j, j < i → (l.getD j g0).1 < n) (h2 : i < l.length → ¬ (l.getD i g0).1 < n) : posG n l = i := by
  rcases Nat.lt_trichotomy (posG n l) i with h | h | h
  · exact absurd (h1 _ h) (posG_at n l (by omega))
  · exact h
  · exact absurd (posG_below n l i h) (h2 (by have := posG_le n l; omega))
def hasG (n : Int) (l : List Gr) : Bool := decide (posG n l < l.length ∧ (l.getD (posG n l) g0).1 = n)
def rowL (n : Int) (l : List Gr) : Gr := if hasG n l = true then l.getD (posG n l) g0 else (n, 0, 0)
def withL (x : Gr) (l : List Gr) : List Gr := if hasG x.1 l = true then l.set (posG x.1 l) x else if x = (x.1, 0, 0) then l else insL l (posG x.1 l) x
theorem has_yes {n : Int} {l : List Gr} (h : hasG n l = true) : posG n l < l.length ∧ (l.getD (posG n l) g0).1 = n := of_decide_eq_true h
theorem has_at {l : List Gr} (ord : OrdG l) {i : Nat} (hi : i < l.length) : hasG (l.getD i g0).1 l = true ∧ posG (l.getD i g0).1 l = i := by
  have hp : posG (l.getD i g0).1 l = i := posG_is _ _ i (by omega) (fun j hj => ord.lt hj hi) (fun _ => by omega)
  exact ⟨decide_eq_true ⟨by rw [hp]; exact hi, by rw [hp]⟩, hp⟩
theorem has_no {n : Int} {l : List Gr} (ord : OrdG l) (h : hasG n l = false) {i : Nat} (hi : i < l.length) : (l.getD i g0).1 ≠ n := fun e => by
  have := (has_at ord hi).1
  rw [e, h] at this
  cases this
def deadK (l : List Gr) (e : Int) : Nat → Int
  | 0 => 0
  | k + 1 => if (l.getD k g0).2.1 < e then max (deadK l e k) (l.getD k g0).2.2 else deadK l e k
def waitK (l : List Gr) (e lo : Int) (k : Nat) : List Int := ((l.take k).filter fun x => decide (x.2.1 < e) && decide (lo < x.2.2)).map (·.1)
theorem wait_step (l : List Gr) (e lo : Int) (k : Nat) (hk : k < l.length) : waitK l e lo (k + 1) = if (l.getD k g0).2.1 < e ∧ lo < (l.getD k g0).2.2 then waitK l e lo k ++ [(l.getD k g0).1] else waitK l e lo k := by
  unfold waitK
  rw [List.take_add_one, List.filter_append, List.map_append, List.getElem?_eq_getElem hk, List.getD_eq_getElem?_getD, List.getElem?_eq_getElem hk]
  simp only [Option.toList_some, Option.getD_some]
  by_cases h : l[k].2.1 < e ∧ lo < l[k].2.2
  · rw [if_pos h, List.filter_cons_of_pos (by simp [h.1, h.2])]
    simp
  · rw [if_neg h, List.filter_cons_of_neg (by simp only [Bool.and_eq_true, decide_eq_true_eq]; exact h)]
    simp
end Le
end
section
namespace Le
def putK (l : List Gr) (x : Gr) : Nat → List Gr × Bool
  | 0 => ([], false)
  | k + 1 =>
    let r := putK l x k
    let y := l.getD k g0
    let o := if r.2 = false ∧ x.1 ≤ y.1 then (r.1 ++ [x], true) else r
    if y.1 ≠ x.1 then (o.1 ++ [y], o.2) else o
def putL (l : List Gr) (x : Gr) : List Gr := let r := putK l x l.length; if r.2 = false then r.1 ++ [x] else r.1
theorem getD_some {l : List Gr} {k : Nat} (hk : k < l.length) : l[k]? = some (l.getD k g0) := by
  rw [List.getD_eq_getElem?_getD, List.getElem?_eq_getElem hk]; rfl
end Le
end
section
namespace Le
theorem insL_getD {l : List Gr} {p : Nat} (hp : p ≤ l.length) (x : Gr) (i : Nat) : (insL l p x).getD i g0 = if i < p then l.getD i g0 else if i = p then x else l.getD (i - 1) g0 := by
  have e : (l.take p).length = p := by simp; omega
  unfold insL
  simp only [List.getD_eq_getElem?_getD]
  by_cases h1 : i < p
  · rw [if_pos h1, List.getElem?_append_left (by omega), List.getElem?_take_of_lt h1]
  · rw [if_neg h1, List.getElem?_append_right (by omega), e]
    by_cases h2 : i = p
    · rw [if_pos h2, h2, Nat.sub_self]; rfl
    · rw [if_neg h2]
      obtain ⟨j, hj⟩ : ∃ j, i - p = j + 1 := ⟨i - p - 1, by omega⟩
      rw [hj, List.getElem?_cons_succ, List.getElem?_drop, show p + j = i - 1 by omega]
theorem set_getD {l : List Gr} {p : Nat} (hp : p < l.length) (x : Gr) (i : Nat) : (l.set p x).getD i g0 = if i = p then x else l.getD i g0 := by
  simp only [List.getD_eq_getElem?_getD]
  by_cases h : i = p
  · rw [if_pos h, h, List.getElem?_set_self hp]; rfl
  · rw [if_neg h, List.getElem?_set_ne (by omega)]
theorem with_row {l : List Gr} (ord : OrdG l) (x : Gr) : rowL x.1 (withL x l) = x := by
  have hle := posG_le x.1 l
  unfold withL
  by_cases h : hasG x.1 l = true
  · rw [if_pos h]
    obtain ⟨h1, h2⟩ := has_yes h
    have hp : posG x.1 (l.set (posG x.1 l) x) = posG x.1 l := by
      refine posG_is _ _ _ (by simp; omega) (fun j hj => ?_) (fun hj => ?_)
      · rw [set_getD h1, if_neg (by omega)]; exact posG_below _ _ _ hj
      · rw [set_getD h1, if_pos rfl]; omega
    have hh : hasG x.1 (l.set (posG x.1 l) x) = true := decide_eq_true ⟨by rw [hp]; simpa using h1, by rw [hp, set_getD h1, if_pos rfl]⟩
    unfold rowL
    rw [if_pos hh, hp, set_getD h1, if_pos rfl]
  · have h' : hasG x.1 l = false := by simpa using h
    rw [if_neg h]
    by_cases e : x = (x.1, 0, 0)
    · rw [if_pos e]; unfold rowL; rw [if_neg h]; exact e.symm
    · rw [if_neg e]
      have hp : posG x.1 (insL l (posG x.1 l) x) = posG x.1 l := by
        refine posG_is _ _ _ (by rw [insL_len _ _ _ hle]; omega) (fun j hj => ?_) (fun hj => ?_)
        · rw [insL_getD hle, if_pos hj]; exact posG_below _ _ _ hj
        · rw [insL_getD hle, if_neg (by omega), if_pos rfl]; omega
      have hh : hasG x.1 (insL l (posG x.1 l) x) = true := decide_eq_true ⟨by rw [hp, insL_len _ _ _ hle]; omega, by rw [hp, insL_getD hle, if_neg (by omega), if_pos rfl]⟩
      unfold rowL
      rw [if_pos hh, hp, insL_getD hle, if_neg (by omega), if_pos rfl]
theorem with_ok {la mo : Int} {l : List Gr} (ok : GsOk la mo l) {x : Gr} (hx : rowOk la x) : GsOk la mo (withL x l) := by
  have hle := posG_le x.1 l
  unfold withL
  by_cases h : hasG x.1 l = true
  · rw [if_pos h]
    obtain ⟨h1, h2⟩ := has_yes h
    refine ⟨ok.la0, ok.mo1, fun k hk => ?_, fun i hi => ?_⟩
    · rw [set_getD h1]
      split
      · exact hx
      · exact ok.rows k (by simpa using hk)
    · rw [List.length_set] at hi
      have o := ok.ord i hi
      rw [set_getD h1, set_getD h1]
      by_cases e1 : i = posG x.1 l
      · rw [if_pos e1, if_neg (by omega)]; rw [e1] at o ⊢; rw [h2] at o; exact o
      · rw [if_neg e1]
        by_cases e2 : i + 1 = posG x.1 l
        · rw [if_pos e2]; rw [e2, h2] at o; exact o
        · rw [if_neg e2]; exact o
  · have h' : hasG x.1 l = false := by simpa using h
    rw [if_neg h]
    by_cases e : x = (x.1, 0, 0)
    · rw [if_pos e]; exact ok
    · rw [if_neg e]
      refine ⟨ok.la0, ok.mo1, fun k hk => ?_, fun i hi => ?_⟩
      · rw [insL_len _ _ _ hle] at hk
        rw [insL_getD hle]
        split
        · exact ok.rows k (by omega)
        · split
          · exact hx
          · exact ok.rows (k - 1) (by omega)
      · rw [insL_len _ _ _ hle] at hi
        rw [insL_getD hle, insL_getD hle]
        rcases Nat.lt_trichotomy i (posG x.1 l) with q | q | q
        · rw [if_pos q]
          by_cases q2 : i + 1 < posG x.1 l
          · rw [if_pos q2]; exact ok.ord i (by omega)
          · rw [if_neg q2, if_pos (by omega)]
            exact posG_below _ _ _ q
        · rw [if_neg (by omega), if_pos q, if_neg (by omega), if_neg (by omega), Nat.add_sub_cancel, q]
          have a1 := posG_at x.1 l (by omega)
          have a2 := has_no ok.ord h' (i := posG x.1 l) (by omega)
          omega
        · rw [if_neg (by omega), if_neg (by omega), if_neg (by omega), if_neg (by omega), Nat.add_sub_cancel]
          have := ok.ord (i - 1) (by omega)
          rwa [show i - 1 + 1 = i by omega] at this
def heardK (n : Int) (l : List Gr) : Nat → Int
  | 0 => 0
  | k + 1 => if (l.getD k g0).1 = n then (l.getD k g0).2.1 else heardK n l k
end Le
end
end Go.Proofs.YteblnmhaohbkkaaDoor
