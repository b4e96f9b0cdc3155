import Derived.Test.YteblnmhaohbkkaaDoorRBR
import Derived.BigQuiet
import Derived.Lib.QuietBelow
namespace Go.Proofs.YteblnmhaohbkkaaDoor
set_option linter.unusedVariables false
set_option linter.unusedSimpArgs false
set_option linter.unusedSectionVars false
section
open Go.RowKit
abbrev Rw := Int × Int × ByteArray × Int × Int
abbrev r0 : Rw := (0, 0, ⟨#[]⟩, 0, 0)
def encR (x : Rw) : List Value := [.int .i64 x.1, .int .i64 x.2.1, .string x.2.2.1, .int .i64 x.2.2.2.1, .int .i64 x.2.2.2.2]
abbrev RwA := RowsA 5 encR
theorem encR_len (a : Rw) : (encR a).length = 5 := rfl
theorem encR_one (a : Rw) : ∀ v ∈ encR a, v.oneCell' = true := by
  intro v hv
  simp only [encR, List.mem_cons, List.not_mem_nil, or_false] at hv
  rcases hv with rfl | rfl | rfl | rfl | rfl <;> rfl
theorem RwA.at_ {W : World} {a : Option Addr} {l : List Rw} (h : RwA W a l) {k : Nat} (hk : k < l.length) :
    ∃ b off, a = some ⟨b, off, none⟩ ∧ W.cell? ⟨b, off + k * 5, none⟩ = some (.int .i64 (l.getD k r0).1) ∧ W.cell? ⟨b, off + k * 5 + 1, none⟩ = some (.int .i64 (l.getD k r0).2.1) ∧ W.cell? ⟨b, off + k * 5 + 2, none⟩ = some (.string (l.getD k r0).2.2.1) ∧ W.cell? ⟨b, off + k * 5 + 3, none⟩ = some (.int .i64 (l.getD k r0).2.2.2.1) ∧ W.cell? ⟨b, off + k * 5 + 4, none⟩ = some (.int .i64 (l.getD k r0).2.2.2.2) := by
  rw [getD_at r0 hk]
  obtain ⟨b, off, e, h1⟩ := h k _ (List.getElem?_eq_getElem hk)
  exact ⟨b, off, e, h1 0 _ rfl, h1 1 _ rfl, h1 2 _ rfl, h1 3 _ rfl, h1 4 _ rfl⟩
def insL {α : Type} (l : List α) (i : Nat) (x : α) : List α := l.take i ++ x :: l.drop i
theorem insL_len {α : Type} (l : List α) (i : Nat) (x : α) (h : i ≤ l.length) : (insL l i x).length = l.length + 1 := by simp [insL]; omega
theorem insL_end {α : Type} (l : List α) (x : α) : insL l l.length x = l ++ [x] := by simp [insL]
def cmpI (a b : Int) : Int := if a < b then -1 else if b < a then 1 else 0
theorem cmpI_neg {a b : Int} : cmpI a b < 0 ↔ a < b := by unfold cmpI; split; · simp [*]
                                                          · split <;> simp <;> omega
theorem cmpI_zero {a b : Int} : cmpI a b = 0 ↔ a = b := by unfold cmpI; split; · simp; omega
                                                           · split <;> simp <;> omega
def cR (w g : Int) (x : Rw) : Int := if cmpI x.1 w = 0 then cmpI x.2.1 g else cmpI x.1 w
def cW (w : Int) (x : Rw) : Int := cmpI x.1 w
theorem cR_neg {w g : Int} {x : Rw} : cR w g x < 0 ↔ x.1 < w ∨ x.1 = w ∧ x.2.1 < g := by
  unfold cR
  split
  · rename_i h; have h := cmpI_zero.1 h; rw [cmpI_neg]; omega
  · rename_i h; have h2 : ¬ x.1 = w := fun e => h (cmpI_zero.2 e); rw [cmpI_neg]; omega
theorem cR_zero {w g : Int} {x : Rw} : cR w g x = 0 ↔ x.1 = w ∧ x.2.1 = g := by
  unfold cR
  split
  · rename_i h; have h := cmpI_zero.1 h; rw [cmpI_zero]; omega
  · rename_i h; have h2 : ¬ x.1 = w := fun e => h (cmpI_zero.2 e); exact ⟨fun e => absurd e h, fun e => absurd e.1 h2⟩
def posC (c : Rw → Int) : List Rw → Nat
  | [] => 0
  | a :: l => if c a < 0 then posC c l + 1 else 0
theorem posC_le (c : Rw → Int) (l : List Rw) : posC c l ≤ l.length := by
  induction l with
  | nil => simp [posC]
  | cons a l ih => simp only [posC, List.length_cons]; split <;> omega
theorem posC_below (c : Rw → Int) (l : List Rw) (j : Nat) (hj : j < posC c l) : c (l.getD j r0) < 0 := by
  induction l generalizing j with
  | nil => simp [posC] at hj
  | cons a l ih =>
    simp only [posC] at hj
    split at hj
    · cases j with
      | zero => simpa using ‹c a < 0›
      | succ j => simp only [List.getD_cons_succ]; exact ih j (by omega)
    · omega
theorem posC_at (c : Rw → Int) (l : List Rw) (h : posC c l < l.length) : ¬ c (l.getD (posC c l) r0) < 0 := by
  induction l with
  | nil => simp at h
  | cons a l ih =>
    by_cases ha : c a < 0
    · have e : posC c (a :: l) = posC c l + 1 := by simp only [posC]; rw [if_pos ha]
      rw [e] at h ⊢
      simp only [List.getD_cons_succ]
      exact ih (by simpa using h)
    · have e : posC c (a :: l) = 0 := by simp only [posC]; rw [if_neg ha]
      rw [e]; simpa using ha
theorem posC_is (c : Rw → Int) (l : List Rw) (i : Nat) (hi : i ≤ l.length) (h1 : ∀ j, j < i → c (l.getD j r0) < 0) (h2 : i < l.length → ¬ c (l.getD i r0) < 0) : posC c l = i := by
  rcases Nat.lt_trichotomy i (posC c l) with h3 | h3 | h3
  · exact absurd (posC_below c l i h3) (h2 (by have := posC_le c l; omega))
  · exact h3.symm
  · exact absurd (h1 _ h3) (posC_at c l (by omega))
def hasC (c : Rw → Int) (l : List Rw) : Bool := decide (posC c l < l.length ∧ c (l.getD (posC c l) r0) = 0)
theorem hasC_iff (c : Rw → Int) (l : List Rw) : hasC c l = true ↔ posC c l < l.length ∧ c (l.getD (posC c l) r0) = 0 := decide_eq_true_iff
def Mono (c : Rw → Int) (l : List Rw) : Prop := ∀ i j, i ≤ j → j < l.length → c (l.getD j r0) < 0 → c (l.getD i r0) < 0
def ltR (x y : Rw) : Prop := x.1 < y.1 ∨ x.1 = y.1 ∧ x.2.1 < y.2.1
instance (x y : Rw) : Decidable (ltR x y) := by unfold ltR; infer_instance
def OrdR (l : List Rw) : Prop := ∀ i, i + 1 < l.length → ltR (l.getD i r0) (l.getD (i + 1) r0)
theorem OrdR.lt {l : List Rw} (h : OrdR l) {i j : Nat} (hij : i < j) (hj : j < l.length) : ltR (l.getD i r0) (l.getD j r0) := by
  induction j with
  | zero => omega
  | succ j ih =>
    have h1 := h j hj
    rcases Nat.lt_or_ge i j with h2 | h2
    · have h3 := ih h2 (by omega)
      unfold ltR at h1 h3 ⊢
      omega
    · obtain rfl : i = j := by omega
      exact h1
theorem OrdR.mono {l : List Rw} (h : OrdR l) (w g : Int) : Mono (cR w g) l := fun i j hij hj hc => by
  rcases Nat.eq_or_lt_of_le hij with rfl | hlt
  · exact hc
  · have h1 := h.lt hlt hj
    rw [cR_neg] at hc ⊢
    unfold ltR at h1
    omega
theorem getEl {l : List Rw} {k : Nat} (h : k < l.length) : l.getD k r0 = l[k] := by rw [List.getD_eq_getElem?_getD, List.getElem?_eq_getElem h]; rfl
def partyOk (n : Int) : Prop := 1 ≤ n ∧ n ≤ 1073741824
instance (n : Int) : Decidable (partyOk n) := by unfold partyOk; infer_instance
def keyOk (x : Rw) : Prop := (1 ≤ x.1 ∧ x.1 ≤ 1073741824) ∧ (1 ≤ x.2.1 ∧ x.2.1 ≤ 1073741824) ∧ (1 ≤ x.2.2.1.size ∧ x.2.2.1.size ≤ 64) ∧ 0 ≤ x.2.2.2.1 ∧ x.2.2.2.1 < x.2.2.2.2 ∧ x.2.2.2.2 ≤ 1099511627776
instance (x : Rw) : Decidable (keyOk x) := by unfold keyOk; infer_instance
structure RingOk (l : List Rw) : Prop where
  keys : ∀ k, k < l.length → keyOk (l.getD k r0)
  ord : OrdR l
  few : l.length ≤ 1000
instance (l : List Rw) : Decidable (OrdR l) := by unfold OrdR; exact decidable_of_iff (∀ i, i < l.length - 1 → ltR (l.getD i r0) (l.getD (i + 1) r0)) ⟨fun h i hi => h i (by omega), fun h i hi => h i (by omega)⟩
instance (l : List Rw) : Decidable (RingOk l) := decidable_of_iff ((∀ k, k < l.length → keyOk (l.getD k r0)) ∧ OrdR l ∧ l.length ≤ 1000) ⟨fun h => ⟨h.1, h.2.1, h.2.2⟩, fun h => ⟨h.keys, h.ord, h.few⟩⟩
theorem RingOk.mem {l : List Rw} (h : RingOk l) {x : Rw} (hx : x ∈ l) : keyOk x := by
  obtain ⟨i, hi, rfl⟩ := List.mem_iff_getElem.1 hx
  have := h.keys i hi
  rwa [getEl hi] at this
def countsP (x : Rw) (lo hi : Int) : Prop := 0 ≤ lo ∧ lo ≤ hi ∧ hi ≤ 1099511627776 ∧ x.2.2.2.1 ≤ lo ∧ hi < x.2.2.2.2
instance (x : Rw) (lo hi : Int) : Decidable (countsP x lo hi) := by unfold countsP; infer_instance
def countsB (x : Rw) (lo hi : Int) : Bool := decide (countsP x lo hi)
def findL (l : List Rw) (p s : Int) : Rw := if hasC (cR p s) l = true then l.getD (posC (cR p s) l) r0 else r0
def findE (l : List Rw) (p s : Int) : Int := if hasC (cR p s) l = true then 0 else 5
end
section
def curS (p lo hi : Int) (st : Rw × Int) (x : Rw) : Rw × Int := if x.1 = p then (if countsB x lo hi = true then (x, 0) else if st.2 = 5 then (st.1, 9) else st) else st
def curK (l : List Rw) (p lo hi : Int) : Nat → Rw × Int
  | 0 => (r0, 5)
  | k + 1 => curS p lo hi (curK l p lo hi k) (l.getD k r0)
def curL (l : List Rw) (p lo hi : Int) : Rw × Int := curK l p lo hi l.length
structure KeysAt (l : List Rw) (p : Int) (f t : Nat) : Prop where
  le : f ≤ t
  len : t ≤ l.length
  inn : ∀ j, f ≤ j → j < t → (l.getD j r0).1 = p
  out : ∀ j, j < l.length → j < f ∨ t ≤ j → (l.getD j r0).1 ≠ p
variable {l : List Rw} {p lo hi : Int} {f t : Nat}
end
section
open Go.RowKit
def keyB (x : Rw) : Bool := decide (keyOk x)
def ltB (x y : Rw) : Bool := decide (ltR x y)
theorem keyB_i (a b : Int) (n : Nat) (c d : Int) (s : ByteArray) (h : s.size = n) : keyB (a, b, s, c, d) = decide ((1 ≤ a ∧ a ≤ 1073741824) ∧ (1 ≤ b ∧ b ≤ 1073741824) ∧ (1 ≤ (n : Int) ∧ (n : Int) ≤ 64) ∧ 0 ≤ c ∧ c < d ∧ d ≤ 1099511627776) := by
  unfold keyB keyOk
  subst h
  apply decide_eq_decide.mpr
  simp only
  omega
set_option maxRecDepth 100000 in
set_option maxHeartbeats 2000000 in
theorem valid_any (x : Rw) (w : World) : Calls Tryd.prog 38 #[.agg (encR x).toArray] w fun e w' => e = .returned (.bool (keyB x)) ∧ Below w.heap.size w w' := by
  obtain ⟨x1, x2, x3, x4, x5⟩ := x
  obtain ⟨n, hn⟩ : ∃ n, x3.size = n := ⟨_, rfl⟩
  rw [keyB_i _ _ n _ _ _ hn]
  simp only [encR]
  go_enter Tryd.func38, Tryd.ntmps38
  go_wp2
  all_goals
    go_ret
    refine ⟨ret_bool ?_, by (repeat' (first | (with_reducible exact Below.refl _ _) | (with_reducible assumption) | (with_reducible refine Below.alloc ?_ ?_ _) | (with_reducible refine Below.drew ?_) | (with_reducible refine below_dn ?_) | (with_reducible refine Below.setCell ?_ ?_ _) | (with_reducible exact Nat.le_refl _) | omega | (simp only [World.size_alloc, World.size_setCell, World.size_drew]; omega) | (simp; omega) | (simp; done)))⟩
    first | (apply decide_eq_decide.mpr; omega) | (symm; apply decide_eq_true; omega) | (symm; apply decide_eq_false; omega) | (rw [Bool.eq_iff_iff]; simp only [Bool.and_eq_true, Bool.or_eq_true, decide_eq_true_eq, Bool.false_eq_true, beq_iff_eq, true_iff, iff_true, false_iff, iff_false]; omega) | (simp; try omega)
abbrev per (lo hi : Int) : Value := .agg #[.int .i64 lo, .int .i64 hi]
set_option maxRecDepth 100000 in
set_option maxHeartbeats 2000000 in
theorem counts_any (x : Rw) (lo hi : Int) (w : World) : Calls Tryd.prog 88 #[.agg (encR x).toArray, per lo hi] w fun e w' => e = .returned (.bool (countsB x lo hi)) ∧ Below w.heap.size w w' := by
  obtain ⟨x1, x2, x3, x4, x5⟩ := x
  simp only [encR, countsB, countsP]
  go_enter Tryd.func88, Tryd.ntmps88
  go_wp2
  all_goals
    go_ret
    refine ⟨ret_bool ?_, by (repeat' (first | (with_reducible exact Below.refl _ _) | (with_reducible assumption) | (with_reducible refine Below.alloc ?_ ?_ _) | (with_reducible refine Below.drew ?_) | (with_reducible refine below_dn ?_) | (with_reducible refine Below.setCell ?_ ?_ _) | (with_reducible exact Nat.le_refl _) | omega | (simp only [World.size_alloc, World.size_setCell, World.size_drew]; omega) | (simp; omega) | (simp; done)))⟩
    first | (apply decide_eq_decide.mpr; omega) | (symm; apply decide_eq_true; omega) | (symm; apply decide_eq_false; omega) | (rw [Bool.eq_iff_iff]; simp only [Bool.and_eq_true, Bool.or_eq_true, decide_eq_true_eq, Bool.false_eq_true, beq_iff_eq, true_iff, iff_true, false_iff, iff_false]; omega) | (simp; try omega)
end
section
open Go.RowKit Go.Sort
theorem five {X : World} {g : Nat} {t : TypeId} {v0 v1 v2 v3 v4 : Value} (h : Blk X g t #[v0, v1, v2, v3, v4]) : X.cell? ⟨g, 0, none⟩ = some v0 ∧ X.cell? ⟨g, 1, none⟩ = some v1 ∧ X.cell? ⟨g, 2, none⟩ = some v2 ∧ X.cell? ⟨g, 3, none⟩ = some v3 ∧ X.cell? ⟨g, 4, none⟩ = some v4 := ⟨h.cell 0, h.cell 1, h.cell 2, h.cell 3, h.cell 4⟩
theorem oneb {X : World} {g : Nat} {t : TypeId} {v0 : Value} (h : Blk X g t #[v0]) : X.cell? ⟨g, 0, none⟩ = some v0 := h.cell 0
set_option maxRecDepth 100000 in
set_option maxHeartbeats 1000000 in
theorem search_any (N : Nat) (v1 v2 v3 : Value) (O : Nat) (J : World → Prop) (JB : ∀ X X' : World, J X → Below O X X' → J X') (q : Nat → Bool) (w : World)
    (GON : ∀ (i : Nat) (W : World), J W → i < N → Calls Tryd.prog 103 #[.int .i64 i, v1, v2, v3] W fun e w' => e = .returned (.bool (q i)) ∧ Below W.heap.size W w')
    (hJ : J w) (hO : O ≤ w.heap.size) (hm : N ≤ 1000000) :
    Calls Tryd.prog 64 #[.int .i64 N, .func (.func 103) #[] #[v1, v2, v3]] w fun e w' =>
      (∃ r : Nat, e = .returned (.int .i64 r) ∧ r ≤ N ∧ ((∀ i j, i ≤ j → j < N → q i = true → q j = true) → (∀ k, k < r → q k = false) ∧ ∀ k, r ≤ k → k < N → q k = true)) ∧ Below w.heap.size w w' := by
  have HJ := Lib.hid hJ
  have JB := Lib.hid JB
  have GON := Lib.hid GON
  have HO := Lib.hid hO
  clear hJ hO
  go_enter Tryd.func64, Tryd.ntmps64
  go_wp2
  go_loopw [5, 6, 7] (fun u5 u6 _ wr => ∃ i j : Nat, u5 = .int .i64 i ∧ u6 = .int .i64 j ∧ i ≤ j ∧ j ≤ N ∧ Hid ((∀ i j, i ≤ j → j < N → q i = true → q j = true) → (∀ k, k < i → q k = false) ∧ ∀ k, j ≤ k → k < N → q k = true) ∧ Hid (Below w.heap.size w wr)) (fun u5 u6 _ _ => (intOf u6 - intOf u5).toNat)
  case atStart => exact ⟨0, N, rfl, rfl, by omega, by omega, Lib.hid (fun _ => ⟨fun k hk => absurd hk (by omega), fun k h1 h2 => absurd h1 (by omega)⟩), Lib.hid (Below.refl _ _)⟩
  case round =>
    obtain ⟨i, j, rfl, rfl, hij, hj, hs, hbe⟩ := hrel
    by_cases hlt : i < j
    · have m1 : i ≤ (i + j) / 2 := by omega
      have m2 : (i + j) / 2 < j := by omega
      obtain ⟨h, hh⟩ : ∃ h, (i + j) / 2 = h := ⟨_, rfl⟩
      rw [hh] at m1 m2
      have e1 : ((i : Int) + (j : Int)) / 2 = (h : Int) := by omega
      have JW := Lib.hid (JB.out _ _ HJ.out (hbe.out.mono HO.out))
      have C := Lib.hid (fun (W : World) (k : J W) => GON.out h W k (by omega))
      clear hh
      cases hq : q h
      · rw [hq] at C
        have HS := Lib.hid (show (∀ i j, i ≤ j → j < N → q i = true → q j = true) → ∀ k, k < h + 1 → q k = false from fun mo k hk => by
          cases e : q k
          · rfl
          · have := mo k h (by omega) (by omega) e
            rw [hq] at this
            cases this)
        clear hq
        go_wp2_with fail
        refine (C.out _ JW.out).mono ?_
        rintro e w1 ⟨rfl, hb⟩
        have B1 := Lib.hid (bt hbe.out hb)
        clear hb
        go_wp2
        go_roundw
        case rel => exact ⟨h + 1, j, by go_num, rfl, by omega, by omega, Lib.hid (fun mo => ⟨HS.out mo, (hs.out mo).2⟩), B1⟩
        case measure => simp [intOf]; omega
      · rw [hq] at C
        have HS := Lib.hid (show (∀ i j, i ≤ j → j < N → q i = true → q j = true) → ∀ k, h ≤ k → k < N → q k = true from fun mo k h1 h2 => mo h k h1 h2 hq)
        clear hq
        go_wp2_with fail
        refine (C.out _ JW.out).mono ?_
        rintro e w1 ⟨rfl, hb⟩
        have B1 := Lib.hid (bt hbe.out hb)
        clear hb
        go_wp2
        go_roundw
        case rel => exact ⟨i, h, rfl, rfl, by omega, by omega, Lib.hid (fun mo => ⟨(hs.out mo).1, HS.out mo⟩), B1⟩
        case measure => simp [intOf]; omega
    · obtain rfl : i = j := by omega
      go_wp2
      go_ret
      exact ⟨⟨i, rfl, hj, hs.out⟩, hbe.out⟩
def atB (p s : Int) (x : Rw) : Bool := decide (p < x.1 ∨ x.1 = p ∧ s ≤ x.2.1)
set_option maxRecDepth 100000 in
set_option maxHeartbeats 1000000 in
theorem place1_any (i : Nat) (g0 g1 g2 : Nat) (a : Option Addr) (c : Nat) (l : List Rw) (p s : Int) (w : World) (h0 : Blk w g0 92 #[.slice a l.length c]) (h1 : Blk w g1 3 #[.int .i64 p]) (h2 : Blk w g2 3 #[.int .i64 s]) (hp : RwA w a l) (hi : i < l.length) (hm : l.length ≤ 1000000) :
    Calls Tryd.prog 103 #[.int .i64 i, .pointer (some ⟨g0, 0, none⟩), .pointer (some ⟨g1, 0, none⟩), .pointer (some ⟨g2, 0, none⟩)] w fun e w' => e = .returned (.bool (atB p s (l.getD i r0))) ∧ Below w.heap.size w w' := by
  obtain ⟨b, off, rfl, q0, q1, q2, q3, q4⟩ := RwA.at_ hp hi
  obtain ⟨x, hx⟩ : ∃ y, l.getD i r0 = y := ⟨_, rfl⟩
  rw [hx] at q0 q1 q2 q3 q4 ⊢
  unfold atB
  obtain ⟨x1, x2, x3, x4, x5⟩ := x
  simp only
  simp only at q0 q1 q2 q3 q4
  obtain ⟨N, hN⟩ : ∃ N, l.length = N := ⟨_, rfl⟩
  rw [hN] at h0 hi hm
  have i0 : (0 : Int) ≤ (i : Int) := by omega
  have iN : (i : Int) < (N : Int) := by omega
  obtain ⟨g, hg⟩ : ∃ g, w.heap.size = g := ⟨_, rfl⟩
  have KX := Lib.hid (show Blk (w.alloc (.cells #[.int .i64 x1, .int .i64 x2, .string x3, .int .i64 x4, .int .i64 x5] 26)) g 26 #[.int .i64 x1, .int .i64 x2, .string x3, .int .i64 x4, .int .i64 x5] from Blk.new' w _ _ _ hg rfl)
  have c0 := oneb h0
  have c1 := oneb h1
  have c2 := oneb h2
  have B := Lib.hid (show Below w.heap.size w (w.alloc (.cells #[.int .i64 x1, .int .i64 x2, .string x3, .int .i64 x4, .int .i64 x5] 26)) by (repeat' (first | (with_reducible exact Below.refl _ _) | (with_reducible assumption) | (with_reducible refine Below.alloc ?_ ?_ _) | (with_reducible refine Below.drew ?_) | (with_reducible refine below_dn ?_) | (with_reducible refine Below.setCell ?_ ?_ _) | (with_reducible exact Nat.le_refl _) | omega | (simp only [World.size_alloc, World.size_setCell, World.size_drew]; omega) | (simp; omega) | (simp; done))))
  have e1 := oneb (h1.alloc (.cells #[.int .i64 x1, .int .i64 x2, .string x3, .int .i64 x4, .int .i64 x5] 26))
  have e2 := oneb (h2.alloc (.cells #[.int .i64 x1, .int .i64 x2, .string x3, .int .i64 x4, .int .i64 x5] 26))
  clear hN hp hx h0 h1 h2
  go_enter Tryd.func103, Tryd.ntmps103
  go_upto_region 2 with (fail)
  try rw [hg]
  generalize hw : w.alloc (.cells #[.int .i64 x1, .int .i64 x2, .string x3, .int .i64 x4, .int .i64 x5] 26) = w1 at KX B e1 e2 ⊢
  obtain ⟨d0, d1, d2, d3, d4⟩ := five KX.out
  clear hw hg q0 q1 q2 q3 q4 c0 c1 c2
  go_wp2
  all_goals
    go_ret
    refine ⟨ret_bool ?_, B.out⟩
    first | (apply decide_eq_decide.mpr; omega) | (symm; apply decide_eq_true; omega) | (symm; apply decide_eq_false; omega) | (rw [Bool.eq_iff_iff]; simp only [Bool.and_eq_true, Bool.or_eq_true, decide_eq_true_eq, Bool.false_eq_true, beq_iff_eq, true_iff, iff_true, false_iff, iff_false]; omega) | (simp; try omega)
set_option maxRecDepth 100000 in
set_option maxHeartbeats 1000000 in
theorem place_any (a : Option Addr) (c : Nat) (l : List Rw) (p s : Int) (w : World) (hp : RwA w a l) (ord : OrdR l) (hm : l.length ≤ 1000000) :
    Calls Tryd.prog 96 #[.slice a l.length c, .int .i64 p, .int .i64 s] w fun e w' => e = .returned (.int .i64 (posC (cR p s) l)) ∧ Below w.heap.size w w' := by
  have HP := Lib.hid hp
  have mo : ∀ i j, i ≤ j → j < l.length → atB p s (l.getD i r0) = true → atB p s (l.getD j r0) = true := fun i j hij hj h => by
    unfold atB at h ⊢
    rw [decide_eq_true_eq] at h ⊢
    rcases Nat.eq_or_lt_of_le hij with rfl | hlt
    · exact h
    · have := ord.lt hlt hj
      unfold ltR at this
      omega
  have PIS := Lib.hid (show ∀ r, r ≤ l.length → ((∀ k, k < r → atB p s (l.getD k r0) = false) ∧ ∀ k, r ≤ k → k < l.length → atB p s (l.getD k r0) = true) → r = posC (cR p s) l from fun r hr ⟨h1, h2⟩ => by
    symm
    apply posC_is _ _ _ hr
    · intro j hj
      have := h1 j hj
      unfold atB at this
      rw [decide_eq_false_iff_not] at this
      rw [cR_neg]
      omega
    · intro hl
      have := h2 r (Nat.le_refl _) hl
      unfold atB at this
      rw [decide_eq_true_eq] at this
      rw [cR_neg]
      omega)
  have MO := Lib.hid mo
  clear mo
  obtain ⟨R, hR⟩ : ∃ R, posC (cR p s) l = R := ⟨_, rfl⟩
  rw [hR] at PIS ⊢
  obtain ⟨g, hg⟩ : ∃ g, w.heap.size = g := ⟨_, rfl⟩
  have KA := Lib.hid (show Blk (((w.alloc (.cells #[.slice a l.length c] 92)).alloc (.cells #[.int .i64 p] 3)).alloc (.cells #[.int .i64 s] 3)) g 92 #[.slice a l.length c] from ((Blk.new' w _ _ _ hg rfl).alloc _).alloc _)
  have KP := Lib.hid (show Blk (((w.alloc (.cells #[.slice a l.length c] 92)).alloc (.cells #[.int .i64 p] 3)).alloc (.cells #[.int .i64 s] 3)) (g + 1) 3 #[.int .i64 p] from (Blk.new' _ _ _ _ (by rw [World.size_alloc, hg]) rfl).alloc _)
  have KS := Lib.hid (show Blk (((w.alloc (.cells #[.slice a l.length c] 92)).alloc (.cells #[.int .i64 p] 3)).alloc (.cells #[.int .i64 s] 3)) (g + 1 + 1) 3 #[.int .i64 s] from Blk.new' _ _ _ _ (by rw [World.size_alloc, World.size_alloc, hg]) rfl)
  have B := Lib.hid (show Below w.heap.size w (((w.alloc (.cells #[.slice a l.length c] 92)).alloc (.cells #[.int .i64 p] 3)).alloc (.cells #[.int .i64 s] 3)) by (repeat' (first | (with_reducible exact Below.refl _ _) | (with_reducible assumption) | (with_reducible refine Below.alloc ?_ ?_ _) | (with_reducible refine Below.drew ?_) | (with_reducible refine below_dn ?_) | (with_reducible refine Below.setCell ?_ ?_ _) | (with_reducible exact Nat.le_refl _) | omega | (simp only [World.size_alloc, World.size_setCell, World.size_drew]; omega) | (simp; omega) | (simp; done))))
  have HPB := Lib.hid (HP.out.mono B.out)
  have SR := Lib.hid (fun (X : World) (h0 : Blk X g 92 #[.slice a l.length c]) (h1 : Blk X (g + 1) 3 #[.int .i64 p]) (h2 : Blk X (g + 1 + 1) 3 #[.int .i64 s]) (h3 : RwA X a l) =>
    search_any l.length (.pointer (some ⟨g, 0, none⟩)) (.pointer (some ⟨g + 1, 0, none⟩)) (.pointer (some ⟨g + 1 + 1, 0, none⟩)) X.heap.size (fun Y => Below X.heap.size X Y) (fun Y Y' k k2 => k.trans k2) (fun i => atB p s (l.getD i r0)) X
      (fun i W k hi => place1_any i g (g + 1) (g + 1 + 1) a c l p s W (h0.below k h0.lt) (h1.below k h1.lt) (h2.below k h2.lt) (h3.mono k) hi hm) (Below.refl _ _) (Nat.le_refl _) hm)
  obtain ⟨N, hN⟩ : ∃ N, l.length = N := ⟨_, rfl⟩
  simp only [hN] at KA SR PIS MO
  rw [hN] at B HPB ⊢
  rw [hN] at KP KS
  clear hp hN hm ord hR
  go_enter Tryd.func96, Tryd.ntmps96
  go_upto_region 1 with (fail)
  try rw [hg]
  generalize hw : ((w.alloc (.cells #[.slice a N c] 92)).alloc (.cells #[.int .i64 p] 3)).alloc (.cells #[.int .i64 s] 3) = w1 at KA KP KS B HPB ⊢
  clear hw hg
  have c0 := oneb KA.out
  go_wp2_with fail
  refine (SR.out _ KA.out KP.out KS.out HPB.out).mono ?_
  rintro e w2 ⟨⟨r, rfl, h1, h2⟩, hb⟩
  have E := Lib.hid (PIS.out r h1 (h2 MO.out))
  have B2 := Lib.hid (bt B.out hb)
  clear h1 h2 hb SR
  go_wp2
  go_ret
  exact ⟨ret_int (by rw [E.out]), B2.out⟩
end
section
open Go.RowKit Go.Sort
theorem grow_cell3 (w : World) (d : Nat) (os : Array Obj) (b o : Nat) (h : b < w.heap.size) : (grow (redrawn w d) os).cell? ⟨b, o, none⟩ = w.cell? ⟨b, o, none⟩ :=
  (below_regrown w d os).cell (p := ⟨b, o, none⟩) h
theorem below_of_grow3 {W W' : World} {d : Nat} {os : Array Obj} (h : W' = grow (redrawn W d) os) : Below W.heap.size W W' := h ▸ below_regrown W d os
def ringB (l : List Rw) : Bool := decide (RingOk l)
def KeysR (l : List Rw) (p : Int) (e : Ending) : Prop := ∃ f t : Nat, e = .returned (.tuple #[.int .i64 f, .int .i64 t]) ∧ f = posC (cR p 1) l ∧ KeysAt l p f t
end
end Go.Proofs.YteblnmhaohbkkaaDoor
