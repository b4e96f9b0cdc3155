/- Plain arithmetic: a bucket keeps its rate. -/
import Derived.Test.YtigalbgailnicaaH
import Derived.Maps.AppendAt
namespace Go.Proofs.Ytigalbgailnicaa
set_option linter.unusedVariables false
set_option linter.unusedSimpArgs false
open Go.RowKit
def tot : List Int → Int
  | [] => 0
  | x :: xs => x + tot xs
theorem tot_snoc (xs : List Int) (x : Int) : tot (xs ++ [x]) = tot xs + x := by
  induction xs with
  | nil => simp [tot]
  | cons y ys ih => simp only [List.cons_append, tot, ih]; omega
theorem tot_drop (xs : List Int) (k : Nat) (h : k < xs.length) : tot (xs.drop k) = tot (xs.drop (k + 1)) + xs.getD k 0 := by
  rw [List.drop_eq_getElem_cons h]
  simp only [tot, List.getD_eq_getElem?_getD, List.getElem?_eq_getElem h, Option.getD_some]
  omega
/-- What holds after some tries: times T, tokens X, the last time t, the level L at the last change A. -/
def Rate (c n d l a : Int) (T X : List Int) (t L A : Int) : Prop :=
  OkB c n d L A ∧ a ≤ A ∧ A ≤ t ∧ T.length = X.length ∧
  (∀ k, k < X.length → 0 ≤ X.getD k 0 ∧ X.getD k 0 ≤ 255 ∧ a ≤ T.getD k 0 ∧ T.getD k 0 ≤ t ∧ ((A < T.getD k 0 ∧ tot (X.drop k) = 0) ∨ (T.getD k 0 ≤ A ∧ tot (X.drop k) * d + L ≤ c * d + n * (A - T.getD k 0)))) ∧
  tot X * d + L ≤ l + n * (A - a)
theorem rate_start {c n d l a : Int} (h : OkB c n d l a) : Rate c n d l a [] [] a l a := by
  refine ⟨h, Int.le_refl _, Int.le_refl _, rfl, fun k hk => absurd hk (by simp), ?_⟩
  simp [tot]
theorem getD_snoc (xs : List Int) (x : Int) (k : Nat) (h : k < xs.length + 1) : (xs ++ [x]).getD k 0 = if k < xs.length then xs.getD k 0 else x := by
  by_cases hk : k < xs.length
  · rw [if_pos hk]; simp [List.getD_eq_getElem?_getD, List.getElem?_append_left hk]
  · obtain rfl : k = xs.length := by omega
    simp [List.getD_eq_getElem?_getD]
theorem drop_snoc (xs : List Int) (x : Int) (k : Nat) (h : k ≤ xs.length) : tot ((xs ++ [x]).drop k) = tot (xs.drop k) + x := by
  rw [List.drop_append_of_le_length h, tot_snoc]
theorem rate_skip {c n d l a : Int} {T X : List Int} {t L A : Int} (h : Rate c n d l a T X t L A) (u : Int) (hu : t ≤ u) : Rate c n d l a (T ++ [u]) (X ++ [0]) u L A := by
  obtain ⟨h1, h2, h3, h4, h5, h6⟩ := h
  refine ⟨h1, h2, by omega, by simp [h4], ?_, by rw [tot_snoc, Int.add_zero]; exact h6⟩
  intro k hk
  have hk' : k < X.length + 1 := by simpa using hk
  rw [getD_snoc X 0 k hk', getD_snoc T u k (by omega), drop_snoc X 0 k (by omega)]
  by_cases c1 : k < X.length
  · rw [if_pos c1, if_pos (by omega)]
    obtain ⟨g1, g2, g3, g4, g5⟩ := h5 k c1
    refine ⟨g1, g2, g3, by omega, ?_⟩
    rw [Int.add_zero]
    exact g5
  · obtain rfl : k = X.length := by omega
    rw [if_neg (by omega), if_neg (by omega), List.drop_length]
    refine ⟨by omega, by omega, by omega, by omega, ?_⟩
    by_cases c2 : A < u
    · exact Or.inl ⟨c2, by simp [tot]⟩
    · refine Or.inr ⟨by omega, ?_⟩
      have := h1.2.2.2.2.2.2.2.1
      obtain rfl : A = u := by omega
      simp [tot]; omega
theorem rate_take {c n d l a : Int} {T X : List Int} {t L A : Int} (h : Rate c n d l a T X t L A) (u x : Int) (hu : t ≤ u) (hu2 : u ≤ 1099511627776) (x1 : 1 ≤ x) (x2 : x ≤ 255) (hx : x * d ≤ lvl c n d L A u) :
    Rate c n d l a (T ++ [u]) (X ++ [x]) u (lvl c n d L A u - x * d) u := by
  obtain ⟨h1, h2, h3, h4, h5, h6⟩ := h
  have ok := lvl_ok h1 u (by omega) hu2
  have hd := h1.2.2.2.2.1
  have hn := h1.2.2.1
  have xd : 0 ≤ x * d := Int.mul_nonneg (by omega) (by omega)
  have le1 : lvl c n d L A u ≤ L + n * (u - A) := by unfold lvl; omega
  have le2 : lvl c n d L A u ≤ c * d := ok.2.2.2.2.2.2.2.1
  refine ⟨⟨ok.1, ok.2.1, ok.2.2.1, ok.2.2.2.1, ok.2.2.2.2.1, ok.2.2.2.2.2.1, by omega, by omega, ok.2.2.2.2.2.2.2.2⟩, by omega, by omega, by simp [h4], ?_, ?_⟩
  · intro k hk
    have hk' : k < X.length + 1 := by simpa using hk
    rw [getD_snoc X x k hk', getD_snoc T u k (by omega), drop_snoc X x k (by omega)]
    by_cases c1 : k < X.length
    · rw [if_pos c1, if_pos (by omega)]
      obtain ⟨g1, g2, g3, g4, g5⟩ := h5 k c1
      refine ⟨g1, g2, g3, by omega, Or.inr ⟨by omega, ?_⟩⟩
      rw [Int.add_mul]
      rcases g5 with ⟨q1, q2⟩ | ⟨q1, q2⟩
      · rw [q2, Int.zero_mul]
        have : 0 ≤ n * (u - T.getD k 0) := Int.mul_nonneg hn (by omega)
        omega
      · have e : n * (u - T.getD k 0) = n * (A - T.getD k 0) + n * (u - A) := by rw [← Int.mul_add]; congr 1; omega
        omega
    · obtain rfl : k = X.length := by omega
      rw [if_neg (by omega), if_neg (by omega), List.drop_length]
      refine ⟨by omega, by omega, by omega, by omega, Or.inr ⟨by omega, ?_⟩⟩
      simp only [tot, Int.zero_add, Int.sub_self, Int.mul_zero, Int.add_zero]
      omega
  · rw [tot_snoc, Int.add_mul]
    have e : n * (u - a) = n * (A - a) + n * (u - A) := by rw [← Int.mul_add]; congr 1; omega
    omega
theorem tot_bd (X : List Int) (h : ∀ k, k < X.length → 0 ≤ X.getD k 0 ∧ X.getD k 0 ≤ 255) : ∀ k, k ≤ X.length → 0 ≤ tot (X.drop k) ∧ tot (X.drop k) ≤ 255 * ((X.length - k : Nat) : Int) := by
  have : ∀ m k, X.length - k = m → k ≤ X.length → 0 ≤ tot (X.drop k) ∧ tot (X.drop k) ≤ 255 * ((X.length - k : Nat) : Int) := by
    intro m
    induction m with
    | zero =>
      intro k hm hk
      obtain rfl : k = X.length := by omega
      rw [List.drop_length]; simp [tot]
    | succ m ih =>
      intro k hm hk
      have hk' : k < X.length := by omega
      have := ih (k + 1) (by omega) (by omega)
      have := h k hk'
      rw [tot_drop X k hk']
      omega
  exact fun k hk => this _ k rfl hk
theorem rate_inner {c n d l a : Int} {T X : List Int} {t L A : Int} (h : Rate c n d l a T X t L A) (k : Nat) (hk : k < X.length) : tot (X.drop k) * d ≤ c * d + n * (t - T.getD k 0) := by
  obtain ⟨h1, h2, h3, h4, h5, h6⟩ := h
  obtain ⟨g1, g2, g3, g4, g5⟩ := h5 k hk
  have hn := h1.2.2.1
  have hL := h1.2.2.2.2.2.2.1
  have p := h1.prod
  rcases g5 with ⟨q1, q2⟩ | ⟨q1, q2⟩
  · rw [q2, Int.zero_mul]
    have : 0 ≤ n * (t - T.getD k 0) := Int.mul_nonneg hn (by omega)
    omega
  · have : n * (A - T.getD k 0) ≤ n * (t - T.getD k 0) := Int.mul_le_mul_of_nonneg_left (by omega) hn
    omega
theorem rate_total {c n d l a : Int} {T X : List Int} {t L A : Int} (h : Rate c n d l a T X t L A) : tot X ≤ (l + n * (t + 1 - 1 - a)) / d := by
  obtain ⟨h1, h2, h3, h4, h5, h6⟩ := h
  have hn := h1.2.2.1
  have hL := h1.2.2.2.2.2.2.1
  have hd := h1.2.2.2.2.1
  refine (Int.le_ediv_iff_mul_le (by omega)).2 ?_
  have : n * (A - a) ≤ n * (t + 1 - 1 - a) := Int.mul_le_mul_of_nonneg_left (by omega) hn
  omega
/-- Take, in every case, for a bucket that is valid and a time that is no earlier. -/
def SomeTake (c n d L A u k : Int) (w : World) (e : Ending) (w' : World) : Prop :=
  ∃ c2 n2 d2 l2 a2 er, e = .returned (.tuple #[bk c2 n2 d2 l2 a2, .int .i64 er]) ∧ (er = 0 ∧ c2 = c ∧ n2 = n ∧ d2 = d ∧ l2 = lvl c n d L A u - k * d ∧ a2 = u ∧ 1 ≤ k ∧ k * d ≤ lvl c n d L A u ∨ er ≠ 0) ∧ Below w.heap.size w w'
theorem take_some (c n d L A u k : Int) (w : World) (h : OkB c n d L A) (h0 : 0 ≤ k) (h1 : k ≤ 255) (hu : A ≤ u) (hu2 : u ≤ 1099511627776) : Calls Try.prog 11 #[bk c n d L A, .int .i64 u, .int .i64 k] w (SomeTake c n d L A u k w) := by
  by_cases k1 : k < 1
  · exact (take_num c n d L A u k w h (Or.inl k1)).mono fun e w' ⟨he, hb⟩ => ⟨_, _, _, _, _, _, he, Or.inr (by omega), hb⟩
  by_cases k2 : k * d ≤ lvl c n d L A u
  · exact (take_ok c n d L A u k w h (by omega) (by omega) hu hu2 k2).mono fun e w' ⟨he, hb⟩ => ⟨_, _, _, _, _, _, he, Or.inl ⟨rfl, rfl, rfl, rfl, rfl, rfl, by omega, k2⟩, hb⟩
  · exact (take_state c n d L A u k w h (by omega) (by omega) hu hu2 (by omega)).mono fun e w' ⟨he, hb⟩ => ⟨_, _, _, _, _, _, he, Or.inr (by omega), hb⟩
/-- What an own row of numbers holds. -/
theorem own_cell {w : World} {base n : Nat} {v : Value} {T : List Int} (h : w.ownsRow base 3 1 v n (T.map (Value.int .i64))) (hn : 0 < n) :
    ∃ g cap, v = .slice (some ⟨g, 0, none⟩) n cap ∧ base ≤ g ∧ g < w.heap.size ∧ ∀ k, k < n → w.cell? ⟨g, k, none⟩ = some (.int .i64 (T.getD k 0)) := by
  obtain ⟨hl, hr⟩ := h
  rcases hr with ⟨_, h0⟩ | ⟨g, cap, cur, rfl, hb, hg, hc, hm, hs, ht⟩
  · omega
  · refine ⟨g, cap, rfl, hb, (Array.getElem?_eq_some_iff.1 hg).1, fun k hk => ?_⟩
    rw [Nat.mul_one] at ht hl
    have hT : T.length = n := by simpa using hl
    have e : w.cell? ⟨g, k, none⟩ = cur[k]? := by simp [World.cell?, hg]
    have e2 : (cur.toList.take n)[k]? = cur[k]? := by rw [List.getElem?_take, if_pos hk]; simp
    rw [e, ← e2, ht, List.getElem?_map]
    simp [List.getD_eq_getElem?_getD, List.getElem?_eq_getElem (show k < T.length by omega)]
theorem grown_cell {w w' : World} {row : Option Nat} {base b o : Nat} {v : Value} (hg : w.grownBy w' row) (hrow : ∀ k, row = some k → base ≤ k) (hb : b < base) (h : w.cell? ⟨b, o, none⟩ = some v) : w'.cell? ⟨b, o, none⟩ = some v :=
  hg.cell h (fun e => by have := hrow _ e.symm; simp only at this; omega)
theorem grown_frozen {w w' : World} {row : Option Nat} {base b o : Nat} (hg : w.grownBy w' row) (hrow : ∀ k, row = some k → base ≤ k) (hb : b < base) (hs : b < w.heap.size) : w'.frozen? ⟨b, o, none⟩ = w.frozen? ⟨b, o, none⟩ :=
  World.frozen?_of_block (hg.block b hs (fun e => by have := hrow _ e.symm; omega))
theorem grown_below {B : Nat} {w0 w w' : World} {row : Option Nat} (h : Below B w0 w) (hg : w.grownBy w' row) (hrow : ∀ k, row = some k → B ≤ k) (hB : B ≤ w.heap.size) : Below B w0 w' :=
  ⟨hg.os.trans h.os, hg.tape.trans h.tape, hg.output.trans h.output, Nat.le_trans h.size hg.size, fun k hk => (hg.block k (by omega) (fun e => by have := hrow _ e.symm; omega)).trans (h.block k hk)⟩
theorem own_keep {w w' : World} {base e size n : Nat} {v : Value} {xs : List Value} (h : w.ownsRow base e size v n xs) (hk : ∀ k, base ≤ k → k < w.heap.size → w'.heap[k]? = w.heap[k]?) : w'.ownsRow base e size v n xs := by
  refine ⟨h.1, ?_⟩
  rcases h.2 with h0 | ⟨g, cap, cur, hv, hb, hg, r⟩
  · exact Or.inl h0
  · exact Or.inr ⟨g, cap, cur, hv, hb, (hk g hb (Array.getElem?_eq_some_iff.1 hg).1).trans hg, r⟩
theorem own_below {w w' : World} {base e size n : Nat} {v : Value} {xs : List Value} (h : w.ownsRow base e size v n xs) (hb : Below w.heap.size w w') : w'.ownsRow base e size v n xs :=
  own_keep h fun k _ hk => hb.block k hk
theorem own_alloc {w : World} {base e size n : Nat} {v : Value} {xs : List Value} (h : w.ownsRow base e size v n xs) (o : Obj) : (w.alloc o).ownsRow base e size v n xs :=
  own_keep h fun k _ hk => Below.heap_alloc w o k hk
theorem own_store {w : World} {base e size n b o : Nat} {v x : Value} {xs : List Value} (h : w.ownsRow base e size v n xs) (hb : b < base) : (w.setCell ⟨b, o, none⟩ x).ownsRow base e size v n xs :=
  own_keep h fun k h1 _ => Below.heap_setCell w _ _ k (by show k ≠ b; omega)
theorem own_lt {w : World} {base e size n : Nat} {v : Value} {xs : List Value} (h : w.ownsRow base e size v n xs) : ∀ k, v.ownBlock = some k → base ≤ k ∧ k < w.heap.size := h.lt
end Go.Proofs.Ytigalbgailnicaa
