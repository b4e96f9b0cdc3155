import Derived.Test.YteblnmhaohbkkaaDoorRLeV
import Derived.Test.YteblnmhaohbkkaaDoorRLMs
import Derived.Test.YteblnmhaohbkkaaDoorRLeH
namespace Go.Proofs.YteblnmhaohbkkaaDoor
set_option linter.unusedVariables false
set_option linter.unusedSimpArgs false
set_option linter.unusedSectionVars false
namespace Le
open Go.RowKit Go.Sort
theorem ret_tup {i j : Int} {f g : Bool} (h : i = j) (k : f = g) : Ending.returned (.tuple #[.int .i64 i, .bool f]) = Ending.returned (.tuple #[.int .i64 j, .bool g]) := by rw [h, k]
set_option maxRecDepth 100000 in
set_option maxHeartbeats 1000000 in
theorem search_any (N : Nat) (v1 v2 : Value) (O : Nat) (J : World → Prop) (JB : ∀ X X' : World, J X → Below O X X' → J X') (q : Nat → Bool) (w : World)
    (GON : ∀ (i : Nat) (W : World), J W → i < N → Calls Tryd.prog 65 #[.int .i64 i, v1, v2] W fun e w' => e = .returned (.bool (q i)) ∧ Below W.heap.size W w')
    (hJ : J w) (hO : O ≤ w.heap.size) (hm : N ≤ 1000000) :
    Calls Tryd.prog 64 #[.int .i64 N, .func (.func 65) #[] #[v1, v2]] w fun e w' =>
      (∃ r : Nat, e = .returned (.int .i64 r) ∧ r ≤ N ∧ ((∀ i j, i ≤ j → j < N → q i = true → q j = true) → (∀ k, k < r → q k = false) ∧ ∀ k, r ≤ k → k < N → q k = true)) ∧ Below w.heap.size w w' := by
  have HJ := Lib.hid hJ
  have JB := Lib.hid JB
  have GON := Lib.hid GON
  have HO := Lib.hid hO
  clear hJ hO
  go_enter Tryd.func64, Tryd.ntmps64
  go_wp2
  go_loopw [5, 6, 7] (fun u5 u6 _ wr => ∃ i j : Nat, u5 = .int .i64 i ∧ u6 = .int .i64 j ∧ i ≤ j ∧ j ≤ N ∧ Hid ((∀ i j, i ≤ j → j < N → q i = true → q j = true) → (∀ k, k < i → q k = false) ∧ ∀ k, j ≤ k → k < N → q k = true) ∧ Hid (Below w.heap.size w wr)) (fun u5 u6 _ _ => (intOf u6 - intOf u5).toNat)
  case atStart => exact ⟨0, N, rfl, rfl, by omega, by omega, Lib.hid (fun _ => ⟨fun k hk => absurd hk (by omega), fun k h1 h2 => absurd h1 (by omega)⟩), Lib.hid (Below.refl _ _)⟩
  case round =>
    obtain ⟨i, j, rfl, rfl, hij, hj, hs, hbe⟩ := hrel
    by_cases hlt : i < j
    · have m1 : i ≤ (i + j) / 2 := by omega
      have m2 : (i + j) / 2 < j := by omega
      obtain ⟨h, hh⟩ : ∃ h, (i + j) / 2 = h := ⟨_, rfl⟩
      rw [hh] at m1 m2
      have e1 : ((i : Int) + (j : Int)) / 2 = (h : Int) := by omega
      have JW := Lib.hid (JB.out _ _ HJ.out (hbe.out.mono HO.out))
      have C := Lib.hid (fun (W : World) (k : J W) => GON.out h W k (by omega))
      clear hh
      cases hq : q h
      · rw [hq] at C
        have HS := Lib.hid (show (∀ i j, i ≤ j → j < N → q i = true → q j = true) → ∀ k, k < h + 1 → q k = false from fun mo k hk => by
          cases e : q k
          · rfl
          · have := mo k h (by omega) (by omega) e
            rw [hq] at this
            cases this)
        clear hq
        go_wp2_with fail
        refine (C.out _ JW.out).mono ?_
        rintro e w1 ⟨rfl, hb⟩
        have B1 := Lib.hid (bt hbe.out hb)
        clear hb
        go_wp2
        go_roundw
        case rel => exact ⟨h + 1, j, by go_num, rfl, by omega, by omega, Lib.hid (fun mo => ⟨HS.out mo, (hs.out mo).2⟩), B1⟩
        case measure => simp [intOf]; omega
      · rw [hq] at C
        have HS := Lib.hid (show (∀ i j, i ≤ j → j < N → q i = true → q j = true) → ∀ k, h ≤ k → k < N → q k = true from fun mo k h1 h2 => mo h k h1 h2 hq)
        clear hq
        go_wp2_with fail
        refine (C.out _ JW.out).mono ?_
        rintro e w1 ⟨rfl, hb⟩
        have B1 := Lib.hid (bt hbe.out hb)
        clear hb
        go_wp2
        go_roundw
        case rel => exact ⟨i, h, rfl, rfl, by omega, by omega, Lib.hid (fun mo => ⟨(hs.out mo).1, HS.out mo⟩), B1⟩
        case measure => simp [intOf]; omega
    · obtain rfl : i = j := by omega
      go_wp2
      go_ret
      exact ⟨⟨i, rfl, hj, hs.out⟩, hbe.out⟩
def geB (n : Int) (x : Gr) : Bool := decide (n ≤ x.1)
set_option maxRecDepth 100000 in
set_option maxHeartbeats 1000000 in
theorem place1_any (i : Nat) (g0 g1 : Nat) (la mo : Int) (a : Option Addr) (c : Nat) (l : List Gr) (n : Int) (w : World) (h0 : Blk w g0 24 #[.int .i64 la, .int .i64 mo, .slice a l.length c]) (h1 : Blk w g1 3 #[.int .i64 n]) (hp : GrA w a l) (hi : i < l.length) (hm : l.length ≤ 1000000) :
    Calls Tryd.prog 65 #[.int .i64 i, .pointer (some ⟨g0, 0, none⟩), .pointer (some ⟨g1, 0, none⟩)] w fun e w' => e = .returned (.bool (geB n (l.getD i Le.g0))) ∧ Below w.heap.size w w' := by
  obtain ⟨b, off, rfl, q0, q1, q2⟩ := at_ hp hi
  obtain ⟨x, hx⟩ : ∃ y, l.getD i Le.g0 = y := ⟨_, rfl⟩
  rw [hx] at q0 q1 q2 ⊢
  unfold geB
  obtain ⟨x1, x2, x3⟩ := x
  simp only at q0 q1 q2 ⊢
  obtain ⟨N, hN⟩ : ∃ N, l.length = N := ⟨_, rfl⟩
  rw [hN] at h0 hi hm
  have i0 : (0 : Int) ≤ (i : Int) := by omega
  have iN : (i : Int) < (N : Int) := by omega
  obtain ⟨c0, c1, c2⟩ := three h0
  have d0 := oneb h1
  clear hN hp hx h0 h1
  go_enter Tryd.func65, Tryd.ntmps65
  go_wp2_with fail
  go_region
  go_wp2
  go_ret
  exact ⟨rfl, by (repeat' (first | (with_reducible exact Below.refl _ _) | (with_reducible assumption) | (with_reducible refine Below.alloc ?_ ?_ _) | (with_reducible refine Below.drew ?_) | (with_reducible refine below_dn ?_) | (with_reducible refine Below.setCell ?_ ?_ _) | (with_reducible exact Nat.le_refl _) | omega | (simp only [World.size_alloc, World.size_setCell, World.size_drew]; omega) | (simp; omega) | (simp; done)))⟩
set_option maxRecDepth 100000 in
set_option maxHeartbeats 1000000 in
theorem place_any (la mo : Int) (a : Option Addr) (c : Nat) (l : List Gr) (n : Int) (w : World) (hp : GrA w a l) (ord : OrdG l) (hm : l.length ≤ 1000000) :
    Calls Tryd.prog 54 #[.agg #[.int .i64 la, .int .i64 mo, .slice a l.length c], .int .i64 n] w fun e w' => e = .returned (.tuple #[.int .i64 (posG n l), .bool (hasG n l)]) ∧ Below w.heap.size w w' := by
  have HP := Lib.hid hp
  have PIS := Lib.hid (show ∀ r, r ≤ l.length → ((∀ k, k < r → geB n (l.getD k g0) = false) ∧ ∀ k, r ≤ k → k < l.length → geB n (l.getD k g0) = true) → r = posG n l from fun r hr ⟨h1, h2⟩ => by
    symm
    apply posG_is _ _ _ hr
    · intro j hj
      have := h1 j hj
      unfold geB at this
      rw [decide_eq_false_iff_not] at this
      omega
    · intro hl
      have := h2 r (Nat.le_refl _) hl
      unfold geB at this
      rw [decide_eq_true_eq] at this
      omega)
  have MO := Lib.hid (show ∀ i j, i ≤ j → j < l.length → geB n (l.getD i g0) = true → geB n (l.getD j g0) = true from fun i j hij hj h => by
    unfold geB at h ⊢
    rw [decide_eq_true_eq] at h ⊢
    rcases Nat.eq_or_lt_of_le hij with rfl | hlt
    · exact h
    · have := ord.lt hlt hj
      omega)
  have HD := Lib.hid (show hasG n l = decide (posG n l < l.length ∧ (l.getD (posG n l) g0).1 = n) from rfl)
  obtain ⟨R, hR⟩ : ∃ R, posG n l = R := ⟨_, rfl⟩
  obtain ⟨H, hH⟩ : ∃ H, hasG n l = H := ⟨_, rfl⟩
  rw [hR] at PIS HD
  rw [hH] at HD
  rw [hR, hH]
  obtain ⟨G, hG⟩ : ∃ G, w.heap.size = G := ⟨_, rfl⟩
  have SR := Lib.hid (fun (X : World) (h0 : Blk X G 24 #[.int .i64 la, .int .i64 mo, .slice a l.length c]) (h1 : Blk X (G + 1) 3 #[.int .i64 n]) (h3 : GrA X a l) =>
    search_any l.length (.pointer (some ⟨G, 0, none⟩)) (.pointer (some ⟨G + 1, 0, none⟩)) X.heap.size (fun Y => Below X.heap.size X Y) (fun Y Y' k k2 => k.trans k2) (fun i => geB n (l.getD i g0)) X
      (fun i W k hi => place1_any i G (G + 1) la mo a c l n W (h0.below k h0.lt) (h1.below k h1.lt) (h3.mono k) hi hm) (Below.refl _ _) (Nat.le_refl _) hm)
  obtain ⟨N, hN⟩ : ∃ N, l.length = N := ⟨_, rfl⟩
  have HE := Lib.hid hN
  simp only [hN] at SR PIS MO HD
  rw [hN] at hm ⊢
  have KA := Lib.hid (show Blk ((w.alloc (.cells #[.int .i64 la, .int .i64 mo, .slice a N c] 24)).alloc (.cells #[.int .i64 n] 3)) G 24 #[.int .i64 la, .int .i64 mo, .slice a N c] from (Blk.new' w _ _ _ hG rfl).alloc _)
  have KP := Lib.hid (show Blk ((w.alloc (.cells #[.int .i64 la, .int .i64 mo, .slice a N c] 24)).alloc (.cells #[.int .i64 n] 3)) (G + 1) 3 #[.int .i64 n] from Blk.new' _ _ _ _ (by rw [World.size_alloc, hG]) rfl)
  have B := Lib.hid (show Below w.heap.size w ((w.alloc (.cells #[.int .i64 la, .int .i64 mo, .slice a N c] 24)).alloc (.cells #[.int .i64 n] 3)) by (repeat' (first | (with_reducible exact Below.refl _ _) | (with_reducible assumption) | (with_reducible refine Below.alloc ?_ ?_ _) | (with_reducible refine Below.drew ?_) | (with_reducible refine below_dn ?_) | (with_reducible refine Below.setCell ?_ ?_ _) | (with_reducible exact Nat.le_refl _) | omega | (simp only [World.size_alloc, World.size_setCell, World.size_drew]; omega) | (simp; omega) | (simp; done))))
  have HPB := Lib.hid (HP.out.mono B.out)
  have HMx := Lib.hid hm
  clear hp hN hm ord hR hH
  go_enter Tryd.func54, Tryd.ntmps54
  go_upto_region 1 with (fail)
  try rw [hG]
  generalize hw : ((w.alloc (.cells #[.int .i64 la, .int .i64 mo, .slice a N c] 24)).alloc (.cells #[.int .i64 n] 3)) = w1 at KA KP B HPB ⊢
  clear hw hG
  obtain ⟨c0, c1, c2⟩ := three KA.out
  go_wp2_with fail
  refine (SR.out _ KA.out KP.out HPB.out).mono ?_
  rintro e w2 ⟨⟨r, rfl, h1, h2⟩, hb⟩
  have E := Lib.hid (PIS.out r h1 (h2 MO.out))
  have RN := Lib.hid h1
  have B2 := Lib.hid (bt B.out hb)
  have KA2 := Lib.hid (KA.out.below hb KA.out.lt)
  have KP2 := Lib.hid (KP.out.below hb KP.out.lt)
  have HP2 := Lib.hid (HPB.out.mono hb)
  clear h1 h2 hb SR c0 c1 c2 KA KP HPB B
  obtain ⟨c0, c1, c2⟩ := three KA2.out
  have d0 := oneb KP2.out
  by_cases hl : r < N
  · have t0 : decide ((r : Int) < (N : Int)) = true := decide_eq_true (by omega)
    have i0 : (0 : Int) ≤ (r : Int) := by omega
    have iN : (r : Int) < (N : Int) := by omega
    obtain ⟨b, off, rfl, q0, q1, q2⟩ := at_ HP2.out (k := r) (by rw [HE.out]; exact hl)
    have HQ := Lib.hid (show H = decide ((l.getD r g0).1 = n) from by
      rw [HD.out, ← E.out]
      apply decide_eq_decide.mpr
      exact ⟨fun q => q.2, fun q => ⟨hl, q⟩⟩)
    obtain ⟨x, hx⟩ : ∃ y, l.getD r g0 = y := ⟨_, rfl⟩
    rw [hx] at q0 q1 q2 HQ
    obtain ⟨x1, x2, x3⟩ := x
    simp only at q0 q1 q2 HQ
    clear hx hl
    go_wp2_with fail
    go_region
    go_wp2
    go_ret2
    exact ⟨ret_tup (by rw [E.out]) (by rw [HQ.out]; try rfl), B2.out.drew⟩
  · have t0 : decide ((r : Int) < (N : Int)) = false := decide_eq_false (by omega)
    have HQ := Lib.hid (show H = false from by rw [HD.out, ← E.out]; exact decide_eq_false (fun q => hl q.1))
    have e0 : N = r := by have := RN.out; omega
    subst e0
    clear hl
    go_wp2_with fail
    go_region
    go_wp2
    go_ret2
    exact ⟨ret_tup (by rw [E.out]) (by rw [HQ.out]), B2.out.drew⟩
end Le
end Go.Proofs.YteblnmhaohbkkaaDoor
