/- Contracts: sort.Search over a closure, and a key's place. -/
import Derived.Test.YtcdcnklfcmoiiaaDoorQV
namespace Go.Proofs.YtcdcnklfcmoiiaaDoor
set_option linter.unusedVariables false
set_option linter.unusedSimpArgs false
open Go.RowKit Go.Sort
theorem five {X : World} {g : Nat} {t : TypeId} {v0 v1 v2 v3 v4 : Value} (h : Blk X g t #[v0, v1, v2, v3, v4]) : X.cell? ⟨g, 0, none⟩ = some v0 ∧ X.cell? ⟨g, 1, none⟩ = some v1 ∧ X.cell? ⟨g, 2, none⟩ = some v2 ∧ X.cell? ⟨g, 3, none⟩ = some v3 ∧ X.cell? ⟨g, 4, none⟩ = some v4 := ⟨h.cell 0, h.cell 1, h.cell 2, h.cell 3, h.cell 4⟩
theorem oneb {X : World} {g : Nat} {t : TypeId} {v0 : Value} (h : Blk X g t #[v0]) : X.cell? ⟨g, 0, none⟩ = some v0 := h.cell 0
set_option maxRecDepth 100000 in
set_option maxHeartbeats 1000000 in
theorem search_any (N : Nat) (v1 v2 v3 : Value) (O : Nat) (J : World → Prop) (JB : ∀ X X' : World, J X → Below O X X' → J X') (q : Nat → Bool) (w : World)
    (GON : ∀ (i : Nat) (W : World), J W → i < N → Calls Tryd.prog 82 #[.int .i64 i, v1, v2, v3] W fun e w' => e = .returned (.bool (q i)) ∧ Below W.heap.size W w')
    (hJ : J w) (hO : O ≤ w.heap.size) (hm : N ≤ 1000000) :
    Calls Tryd.prog 81 #[.int .i64 N, .func (.func 82) #[] #[v1, v2, v3]] w fun e w' =>
      (∃ r : Nat, e = .returned (.int .i64 r) ∧ r ≤ N ∧ ((∀ i j, i ≤ j → j < N → q i = true → q j = true) → (∀ k, k < r → q k = false) ∧ ∀ k, r ≤ k → k < N → q k = true)) ∧ Below w.heap.size w w' := by
  have HJ := Lib.hid hJ
  have JB := Lib.hid JB
  have GON := Lib.hid GON
  have HO := Lib.hid hO
  clear hJ hO
  go_enter Tryd.func81, Tryd.ntmps81
  go_wp2
  go_loopw [5, 6, 7] (fun u5 u6 _ wr => ∃ i j : Nat, u5 = .int .i64 i ∧ u6 = .int .i64 j ∧ i ≤ j ∧ j ≤ N ∧ Hid ((∀ i j, i ≤ j → j < N → q i = true → q j = true) → (∀ k, k < i → q k = false) ∧ ∀ k, j ≤ k → k < N → q k = true) ∧ Hid (Below w.heap.size w wr)) (fun u5 u6 _ _ => (intOf u6 - intOf u5).toNat)
  case atStart => exact ⟨0, N, rfl, rfl, by omega, by omega, Lib.hid (fun _ => ⟨fun k hk => absurd hk (by omega), fun k h1 h2 => absurd h1 (by omega)⟩), Lib.hid (Below.refl _ _)⟩
  case round =>
    obtain ⟨i, j, rfl, rfl, hij, hj, hs, hbe⟩ := hrel
    by_cases hlt : i < j
    · have m1 : i ≤ (i + j) / 2 := by omega
      have m2 : (i + j) / 2 < j := by omega
      obtain ⟨h, hh⟩ : ∃ h, (i + j) / 2 = h := ⟨_, rfl⟩
      rw [hh] at m1 m2
      have e1 : ((i : Int) + (j : Int)) / 2 = (h : Int) := by omega
      have JW := Lib.hid (JB.out _ _ HJ.out (hbe.out.mono HO.out))
      have C := Lib.hid (fun (W : World) (k : J W) => GON.out h W k (by omega))
      clear hh
      cases hq : q h
      · rw [hq] at C
        have HS := Lib.hid (show (∀ i j, i ≤ j → j < N → q i = true → q j = true) → ∀ k, k < h + 1 → q k = false from fun mo k hk => by
          cases e : q k
          · rfl
          · have := mo k h (by omega) (by omega) e
            rw [hq] at this
            cases this)
        clear hq
        go_wp2_with fail
        refine (C.out _ JW.out).mono ?_
        rintro e w1 ⟨rfl, hb⟩
        have B1 := Lib.hid (bt hbe.out hb)
        clear hb
        go_wp2
        go_roundw
        case rel => exact ⟨h + 1, j, by go_num, rfl, by omega, by omega, Lib.hid (fun mo => ⟨HS.out mo, (hs.out mo).2⟩), B1⟩
        case measure => simp [intOf]; omega
      · rw [hq] at C
        have HS := Lib.hid (show (∀ i j, i ≤ j → j < N → q i = true → q j = true) → ∀ k, h ≤ k → k < N → q k = true from fun mo k h1 h2 => mo h k h1 h2 hq)
        clear hq
        go_wp2_with fail
        refine (C.out _ JW.out).mono ?_
        rintro e w1 ⟨rfl, hb⟩
        have B1 := Lib.hid (bt hbe.out hb)
        clear hb
        go_wp2
        go_roundw
        case rel => exact ⟨i, h, rfl, rfl, by omega, by omega, Lib.hid (fun mo => ⟨(hs.out mo).1, HS.out mo⟩), B1⟩
        case measure => simp [intOf]; omega
    · obtain rfl : i = j := by omega
      go_wp2
      go_ret
      exact ⟨⟨i, rfl, hj, hs.out⟩, hbe.out⟩
/-- The closure of place. -/
def atB (p s : Int) (x : Rw) : Bool := decide (p < x.1 ∨ x.1 = p ∧ s ≤ x.2.1)
set_option maxRecDepth 100000 in
set_option maxHeartbeats 1000000 in
theorem place1_any (i : Nat) (g0 g1 g2 : Nat) (a : Option Addr) (c : Nat) (l : List Rw) (p s : Int) (w : World) (h0 : Blk w g0 22 #[.slice a l.length c]) (h1 : Blk w g1 3 #[.int .i64 p]) (h2 : Blk w g2 3 #[.int .i64 s]) (hp : RwA w a l) (hi : i < l.length) (hm : l.length ≤ 1000000) :
    Calls Tryd.prog 82 #[.int .i64 i, .pointer (some ⟨g0, 0, none⟩), .pointer (some ⟨g1, 0, none⟩), .pointer (some ⟨g2, 0, none⟩)] w fun e w' => e = .returned (.bool (atB p s (l.getD i r0))) ∧ Below w.heap.size w w' := by
  obtain ⟨b, off, rfl, q0, q1, q2, q3, q4⟩ := RwA.at_ hp hi
  obtain ⟨x, hx⟩ : ∃ y, l.getD i r0 = y := ⟨_, rfl⟩
  rw [hx] at q0 q1 q2 q3 q4 ⊢
  unfold atB
  obtain ⟨x1, x2, x3, x4, x5⟩ := x
  simp only
  simp only at q0 q1 q2 q3 q4
  obtain ⟨N, hN⟩ : ∃ N, l.length = N := ⟨_, rfl⟩
  rw [hN] at h0 hi hm
  have i0 : (0 : Int) ≤ (i : Int) := by omega
  have iN : (i : Int) < (N : Int) := by omega
  obtain ⟨g, hg⟩ : ∃ g, w.heap.size = g := ⟨_, rfl⟩
  have KX := Lib.hid (show Blk (w.alloc (.cells #[.int .i64 x1, .int .i64 x2, .string x3, .int .i64 x4, .int .i64 x5] 24)) g 24 #[.int .i64 x1, .int .i64 x2, .string x3, .int .i64 x4, .int .i64 x5] from Blk.new' w _ _ _ hg rfl)
  have c0 := oneb h0
  have c1 := oneb h1
  have c2 := oneb h2
  have B := Lib.hid (show Below w.heap.size w (w.alloc (.cells #[.int .i64 x1, .int .i64 x2, .string x3, .int .i64 x4, .int .i64 x5] 24)) by (repeat' (first | (with_reducible exact Below.refl _ _) | (with_reducible assumption) | (with_reducible refine Below.alloc ?_ ?_ _) | (with_reducible refine Below.drew ?_) | (with_reducible refine below_dn ?_) | (with_reducible refine Below.setCell ?_ ?_ _) | (with_reducible exact Nat.le_refl _) | omega | (simp only [World.size_alloc, World.size_setCell, World.size_drew]; omega) | (simp; omega) | (simp; done))))
  have e1 := oneb (h1.alloc (.cells #[.int .i64 x1, .int .i64 x2, .string x3, .int .i64 x4, .int .i64 x5] 24))
  have e2 := oneb (h2.alloc (.cells #[.int .i64 x1, .int .i64 x2, .string x3, .int .i64 x4, .int .i64 x5] 24))
  clear hN hp hx h0 h1 h2
  go_enter Tryd.func82, Tryd.ntmps82
  go_upto_region 2 with (fail)
  try rw [hg]
  generalize hw : w.alloc (.cells #[.int .i64 x1, .int .i64 x2, .string x3, .int .i64 x4, .int .i64 x5] 24) = w1 at KX B e1 e2 ⊢
  obtain ⟨d0, d1, d2, d3, d4⟩ := five KX.out
  clear hw hg q0 q1 q2 q3 q4 c0 c1 c2
  go_wp2
  all_goals
    go_ret
    refine ⟨ret_bool ?_, B.out⟩
    first | (apply decide_eq_decide.mpr; omega) | (symm; apply decide_eq_true; omega) | (symm; apply decide_eq_false; omega) | (rw [Bool.eq_iff_iff]; simp only [Bool.and_eq_true, Bool.or_eq_true, decide_eq_true_eq, Bool.false_eq_true, beq_iff_eq, true_iff, iff_true, false_iff, iff_false]; omega) | (simp; try omega)
set_option maxRecDepth 100000 in
set_option maxHeartbeats 1000000 in
theorem place_any (a : Option Addr) (c : Nat) (l : List Rw) (p s : Int) (w : World) (hp : RwA w a l) (ord : OrdR l) (hm : l.length ≤ 1000000) :
    Calls Tryd.prog 57 #[.slice a l.length c, .int .i64 p, .int .i64 s] w fun e w' => e = .returned (.int .i64 (posC (cR p s) l)) ∧ Below w.heap.size w w' := by
  have HP := Lib.hid hp
  have mo : ∀ i j, i ≤ j → j < l.length → atB p s (l.getD i r0) = true → atB p s (l.getD j r0) = true := fun i j hij hj h => by
    unfold atB at h ⊢
    rw [decide_eq_true_eq] at h ⊢
    rcases Nat.eq_or_lt_of_le hij with rfl | hlt
    · exact h
    · have := ord.lt hlt hj
      unfold ltR at this
      omega
  have PIS := Lib.hid (show ∀ r, r ≤ l.length → ((∀ k, k < r → atB p s (l.getD k r0) = false) ∧ ∀ k, r ≤ k → k < l.length → atB p s (l.getD k r0) = true) → r = posC (cR p s) l from fun r hr ⟨h1, h2⟩ => by
    symm
    apply posC_is _ _ _ hr
    · intro j hj
      have := h1 j hj
      unfold atB at this
      rw [decide_eq_false_iff_not] at this
      rw [cR_neg]
      omega
    · intro hl
      have := h2 r (Nat.le_refl _) hl
      unfold atB at this
      rw [decide_eq_true_eq] at this
      rw [cR_neg]
      omega)
  have MO := Lib.hid mo
  clear mo
  obtain ⟨R, hR⟩ : ∃ R, posC (cR p s) l = R := ⟨_, rfl⟩
  rw [hR] at PIS ⊢
  obtain ⟨g, hg⟩ : ∃ g, w.heap.size = g := ⟨_, rfl⟩
  have KA := Lib.hid (show Blk (((w.alloc (.cells #[.slice a l.length c] 22)).alloc (.cells #[.int .i64 p] 3)).alloc (.cells #[.int .i64 s] 3)) g 22 #[.slice a l.length c] from ((Blk.new' w _ _ _ hg rfl).alloc _).alloc _)
  have KP := Lib.hid (show Blk (((w.alloc (.cells #[.slice a l.length c] 22)).alloc (.cells #[.int .i64 p] 3)).alloc (.cells #[.int .i64 s] 3)) (g + 1) 3 #[.int .i64 p] from (Blk.new' _ _ _ _ (by rw [World.size_alloc, hg]) rfl).alloc _)
  have KS := Lib.hid (show Blk (((w.alloc (.cells #[.slice a l.length c] 22)).alloc (.cells #[.int .i64 p] 3)).alloc (.cells #[.int .i64 s] 3)) (g + 1 + 1) 3 #[.int .i64 s] from Blk.new' _ _ _ _ (by rw [World.size_alloc, World.size_alloc, hg]) rfl)
  have B := Lib.hid (show Below w.heap.size w (((w.alloc (.cells #[.slice a l.length c] 22)).alloc (.cells #[.int .i64 p] 3)).alloc (.cells #[.int .i64 s] 3)) by (repeat' (first | (with_reducible exact Below.refl _ _) | (with_reducible assumption) | (with_reducible refine Below.alloc ?_ ?_ _) | (with_reducible refine Below.drew ?_) | (with_reducible refine below_dn ?_) | (with_reducible refine Below.setCell ?_ ?_ _) | (with_reducible exact Nat.le_refl _) | omega | (simp only [World.size_alloc, World.size_setCell, World.size_drew]; omega) | (simp; omega) | (simp; done))))
  have HPB := Lib.hid (HP.out.mono B.out)
  have SR := Lib.hid (fun (X : World) (h0 : Blk X g 22 #[.slice a l.length c]) (h1 : Blk X (g + 1) 3 #[.int .i64 p]) (h2 : Blk X (g + 1 + 1) 3 #[.int .i64 s]) (h3 : RwA X a l) =>
    search_any l.length (.pointer (some ⟨g, 0, none⟩)) (.pointer (some ⟨g + 1, 0, none⟩)) (.pointer (some ⟨g + 1 + 1, 0, none⟩)) X.heap.size (fun Y => Below X.heap.size X Y) (fun Y Y' k k2 => k.trans k2) (fun i => atB p s (l.getD i r0)) X
      (fun i W k hi => place1_any i g (g + 1) (g + 1 + 1) a c l p s W (h0.below k h0.lt) (h1.below k h1.lt) (h2.below k h2.lt) (h3.mono k) hi hm) (Below.refl _ _) (Nat.le_refl _) hm)
  obtain ⟨N, hN⟩ : ∃ N, l.length = N := ⟨_, rfl⟩
  simp only [hN] at KA SR PIS MO
  rw [hN] at B HPB ⊢
  rw [hN] at KP KS
  clear hp hN hm ord hR
  go_enter Tryd.func57, Tryd.ntmps57
  go_upto_region 1 with (fail)
  try rw [hg]
  generalize hw : ((w.alloc (.cells #[.slice a N c] 22)).alloc (.cells #[.int .i64 p] 3)).alloc (.cells #[.int .i64 s] 3) = w1 at KA KP KS B HPB ⊢
  clear hw hg
  have c0 := oneb KA.out
  go_wp2_with fail
  refine (SR.out _ KA.out KP.out KS.out HPB.out).mono ?_
  rintro e w2 ⟨⟨r, rfl, h1, h2⟩, hb⟩
  have E := Lib.hid (PIS.out r h1 (h2 MO.out))
  have B2 := Lib.hid (bt B.out hb)
  clear h1 h2 hb SR
  go_wp2
  go_ret
  exact ⟨ret_int (by rw [E.out]), B2.out⟩
end Go.Proofs.YtcdcnklfcmoiiaaDoor
