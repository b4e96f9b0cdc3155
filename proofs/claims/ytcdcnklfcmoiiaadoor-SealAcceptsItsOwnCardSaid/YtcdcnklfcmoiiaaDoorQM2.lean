/- Mathematics of rings: the newest key that counts. -/
import Derived.Test.YtcdcnklfcmoiiaaDoorQM
namespace Go.Proofs.YtcdcnklfcmoiiaaDoor
set_option linter.unusedVariables false
set_option linter.unusedSimpArgs false
/-- What is known of the newest key after one more. -/
def curS (p lo hi : Int) (st : Rw × Int) (x : Rw) : Rw × Int := if x.1 = p then (if countsB x lo hi = true then (x, 0) else if st.2 = 5 then (st.1, 9) else st) else st
def curK (l : List Rw) (p lo hi : Int) : Nat → Rw × Int
  | 0 => (r0, 5)
  | k + 1 => curS p lo hi (curK l p lo hi k) (l.getD k r0)
def curL (l : List Rw) (p lo hi : Int) : Rw × Int := curK l p lo hi l.length
theorem cur_far {l : List Rw} {p lo hi : Int} {k : Nat} : ∀ m, k ≤ m → (∀ j, k ≤ j → j < m → (l.getD j r0).1 ≠ p) → curK l p lo hi m = curK l p lo hi k
  | 0, h, _ => by obtain rfl : k = 0 := by omega
                  rfl
  | m + 1, h, hj => by
    rcases Nat.eq_or_lt_of_le h with rfl | h2
    · rfl
    · have ih := cur_far (l := l) (p := p) (lo := lo) (hi := hi) (k := k) m (by omega) (fun j h1 h3 => hj j h1 (by omega))
      show curS p lo hi (curK l p lo hi m) (l.getD m r0) = _
      rw [ih]
      unfold curS
      rw [if_neg (hj m (by omega) (by omega))]
theorem cur_stay {l : List Rw} {p lo hi : Int} {k : Nat} (h0 : (curK l p lo hi k).2 ≠ 5) : ∀ m, k ≤ m → (∀ j, k ≤ j → j < m → countsB (l.getD j r0) lo hi = false) → curK l p lo hi m = curK l p lo hi k
  | 0, h, _ => by obtain rfl : k = 0 := by omega
                  rfl
  | m + 1, h, hj => by
    rcases Nat.eq_or_lt_of_le h with rfl | h2
    · rfl
    · have ih := cur_stay h0 m (by omega) (fun j h1 h3 => hj j h1 (by omega))
      show curS p lo hi (curK l p lo hi m) (l.getD m r0) = _
      rw [ih]
      unfold curS
      have e := hj m (by omega) (by omega)
      by_cases q : (l.getD m r0).1 = p
      · rw [if_pos q, e, if_neg (by decide), if_neg h0]
      · rw [if_neg q]
/-- Where the keys of a party lie. -/
structure KeysAt (l : List Rw) (p : Int) (f t : Nat) : Prop where
  le : f ≤ t
  len : t ≤ l.length
  inn : ∀ j, f ≤ j → j < t → (l.getD j r0).1 = p
  out : ∀ j, j < l.length → j < f ∨ t ≤ j → (l.getD j r0).1 ≠ p
variable {l : List Rw} {p lo hi : Int} {f t : Nat}
theorem cur_name (h : KeysAt l p f f) : curL l p lo hi = (r0, 5) :=
  cur_far l.length (Nat.zero_le _) (fun j _ hj => h.out j hj (by omega))
theorem cur_at (h : KeysAt l p f t) {i : Nat} (h1 : f ≤ i) (h2 : i < t) (hc : countsB (l.getD i r0) lo hi = true) (hn : ∀ j, i < j → j < t → countsB (l.getD j r0) lo hi = false) : curL l p lo hi = (l.getD i r0, 0) := by
  have a : curK l p lo hi (i + 1) = (l.getD i r0, 0) := by
    show curS p lo hi (curK l p lo hi i) (l.getD i r0) = _
    unfold curS
    rw [if_pos (h.inn i h1 h2), if_pos hc]
  have b : curK l p lo hi t = curK l p lo hi (i + 1) := cur_stay (by rw [a]; show (_ : Int) ≠ 5; simp only; decide) t (by omega) (fun j h3 h4 => hn j (by omega) h4)
  have c : curK l p lo hi l.length = curK l p lo hi t := cur_far l.length h.len (fun j h3 h4 => h.out j h4 (Or.inr h3))
  unfold curL
  rw [c, b, a]
theorem cur_time (h : KeysAt l p f t) (hft : f < t) (hn : ∀ j, f ≤ j → j < t → countsB (l.getD j r0) lo hi = false) : curL l p lo hi = (r0, 9) := by
  have z : curK l p lo hi f = (r0, 5) := cur_far f (Nat.zero_le _) (fun j _ h3 => h.out j (by have := h.len; omega) (Or.inl h3))
  have a : curK l p lo hi (f + 1) = (r0, 9) := by
    show curS p lo hi (curK l p lo hi f) (l.getD f r0) = _
    unfold curS
    rw [if_pos (h.inn f (Nat.le_refl _) hft), hn f (Nat.le_refl _) hft, z]
    rfl
  have b : curK l p lo hi t = curK l p lo hi (f + 1) := cur_stay (by rw [a]; show (_ : Int) ≠ 5; simp only; decide) t (by omega) (fun j h3 h4 => hn j (by omega) h4)
  have c : curK l p lo hi l.length = curK l p lo hi t := cur_far l.length h.len (fun j h3 h4 => h.out j h4 (Or.inr h3))
  unfold curL
  rw [c, b, a]
theorem keys_at {l : List Rw} (h : OrdR l) {p : Int} {f t : Nat} (hf : f ≤ l.length) (h1 : ∀ j, j < f → (l.getD j r0).1 < p) (ht : f ≤ t) (hl : t ≤ l.length) (h2 : ∀ j, f ≤ j → j < t → (l.getD j r0).1 = p) (h3 : t < l.length → (l.getD t r0).1 ≠ p) (h4 : f < l.length → p ≤ (l.getD f r0).1) : KeysAt l p f t :=
  ⟨ht, hl, h2, fun j hj q => by
    rcases q with q | q
    · have := h1 j q; omega
    · have h5 : t < l.length := by omega
      have h6 : p < (l.getD t r0).1 := by
        have h7 := h3 h5
        have h8 : p ≤ (l.getD f r0).1 := h4 (by omega)
        rcases Nat.eq_or_lt_of_le ht with e | e
        · subst e; omega
        · have := h.lt e h5
          unfold ltR at this
          omega
      rcases Nat.eq_or_lt_of_le q with e | e
      · subst e; omega
      · have := h.lt e hj
        unfold ltR at this
        omega⟩
end Go.Proofs.YtcdcnklfcmoiiaaDoor
