/- Contracts: accounts are found, by halving and in order. -/
import Derived.Test.YtjmegfejnocegaaM3
import Derived.Test.YtjmegfejnocegaaJ
import Derived.Test.YtjmegfejnocegaaC
namespace Go.Proofs.Ytjmegfejnocegaa
set_option linter.unusedVariables false
set_option linter.unusedSimpArgs false
open Go.RowKit
def cmpI (a b : Int) : Int := if a < b then -1 else if b < a then 1 else 0
theorem isNaN_any (n : Int) (w : World) : Calls Try.prog 51 #[.int .i64 n] w fun e w' => e = .returned (.bool false) ∧ w = w' := by
  have h : (n != n) = false := by simp
  go_enter Try.func51, Try.ntmps51
  go_wp2
  go_ret
  exact ⟨rfl, rfl⟩
set_option maxHeartbeats 400000 in
theorem compare_any (a b : Int) (w : World) : Calls Try.prog 47 #[.int .i64 a, .int .i64 b] w fun e w' => e = .returned (.int .i64 (cmpI a b)) ∧ w = w' := by
  have C1 := Lib.hid (fun W => isNaN_any a W)
  have C2 := Lib.hid (fun W => isNaN_any b W)
  have hc : cmpI a b = if a < b then -1 else if b < a then 1 else 0 := rfl
  obtain ⟨r, hr⟩ : ∃ r, cmpI a b = r := ⟨_, rfl⟩
  rw [hr] at hc ⊢
  have HC := Lib.hid hc
  clear hr hc
  go_enter Try.func47, Try.ntmps47
  go_wp2_with fail
  refine (C1.out _).mono ?_
  rintro e w1 ⟨rfl, rfl⟩
  go_wp2_with fail
  refine (C2.out _).mono ?_
  rintro e w1 ⟨rfl, rfl⟩
  go_wp2
  all_goals
    go_ret
    exact ⟨ret_int (by rw [HC.out]; (repeat' split) <;> omega), rfl⟩
set_option maxHeartbeats 400000 in
theorem findcmp_any (a : Ac) (x : Int) (w : World) : Calls Try.prog 46 #[.agg #[.int .i64 a.1, .int .i64 a.2.1, .int .i64 a.2.2], .int .i64 x] w fun e w' => e = .returned (.int .i64 (cmpI a.1 x)) ∧ Below w.heap.size w w' := by
  have C := Lib.hid (fun W => compare_any a.1 x W)
  go_enter Try.func46, Try.ntmps46
  go_wp2_with fail
  refine (C.out _).mono ?_
  rintro e w1 ⟨rfl, rfl⟩
  go_wp2
  go_ret
  exact ⟨rfl, by (repeat' (first | (with_reducible exact Below.refl _ _) | (with_reducible assumption) | (with_reducible refine Below.alloc ?_ ?_ _) | (with_reducible refine Below.drew ?_) | (with_reducible refine below_dn ?_) | (with_reducible refine Below.setCell ?_ ?_ _) | (with_reducible exact Nat.le_refl _) | omega | (simp only [World.size_alloc, World.size_setCell, World.size_drew]; omega) | (simp; omega) | (simp; done)))⟩
theorem cmpI_neg {a b : Int} (h : a < b) : cmpI a b = -1 := if_pos h
theorem cmpI_zero (a : Int) : cmpI a a = 0 := by unfold cmpI; simp
theorem cmpI_pos {a b : Int} (h : b < a) : cmpI a b = 1 := by unfold cmpI; rw [if_neg (by omega), if_pos h]
set_option maxRecDepth 100000 in
set_option maxHeartbeats 1000000 in
theorem search_any (a : Option Addr) (cap : Nat) (l : List Ac) (x : Int) (w : World) (hp : AcA w a l) (hok : OkA l) :
    Calls Try.prog 45 #[.slice a l.length cap, .int .i64 x, .func (.func 46) #[] #[]] w fun e w' => e = .returned (.tuple #[.int .i64 (posA l x : Int), .bool (hasA l x)]) ∧ Below w.heap.size w w' := by
  have HP := Lib.hid hp; have HK := Lib.hid hok
  have hm := hok.2
  obtain ⟨N, hN⟩ : ∃ N, l.length = N := ⟨_, rfl⟩
  have HE := Lib.hid hN
  rw [hN] at hm ⊢
  clear hp hok hN
  go_enter Try.func45, Try.ntmps45
  go_wp2
  go_loopw [9, 10, 11] (fun u9 u10 _ wr => ∃ i j : Nat, u9 = .int .i64 i ∧ u10 = .int .i64 j ∧ i ≤ j ∧ j ≤ N ∧ Hid ((∀ k, k < i → (l.getD k (0, 0, 0)).1 < x) ∧ (∀ k, j ≤ k → k < l.length → x ≤ (l.getD k (0, 0, 0)).1)) ∧ Hid (Below w.heap.size w wr)) (fun u9 u10 _ _ => (intOf u10 - intOf u9).toNat)
  case atStart => exact ⟨0, N, rfl, rfl, by omega, by omega, Lib.hid ⟨fun k hk => absurd hk (by omega), fun k hk hl => absurd hl (by rw [HE.out]; omega)⟩, Lib.hid (Below.refl _ _)⟩
  case round =>
    obtain ⟨i, j, rfl, rfl, hij, hj, hs, hbe⟩ := hrel
    by_cases hlt : i < j
    · have m1 : i ≤ (i + j) / 2 := by omega
      have m2 : (i + j) / 2 < j := by omega
      obtain ⟨h, hh⟩ : ∃ h, (i + j) / 2 = h := ⟨_, rfl⟩
      rw [hh] at m1 m2
      have e1 : ((i : Int) + (j : Int)) / 2 = (h : Int) := by omega
      obtain ⟨b, off, rfl, q0, q1, q2⟩ := AcA.at_ (HP.out.mono hbe.out) (k := h) (by rw [HE.out]; omega)
      have LT := Lib.hid (show (l.getD h (0, 0, 0)).1 < x → (∀ k, k < h + 1 → (l.getD k (0, 0, 0)).1 < x) from fun h1 k hk => by
        rcases Nat.lt_or_ge k h with h2 | h2
        · have := HK.out.lt h2 (by rw [HE.out]; omega); omega
        · rw [show k = h by omega]; exact h1)
      have GE := Lib.hid (show x ≤ (l.getD h (0, 0, 0)).1 → (∀ k, h ≤ k → k < l.length → x ≤ (l.getD k (0, 0, 0)).1) from fun h1 k hk hl => by
        rcases Nat.lt_or_ge h k with h2 | h2
        · have := HK.out.lt h2 hl; omega
        · rw [show k = h by omega]; exact h1)
      obtain ⟨y, hy⟩ : ∃ y, l.getD h (0, 0, 0) = y := ⟨_, rfl⟩
      rw [hy] at q0 q1 q2 LT GE
      have C := Lib.hid (fun W => findcmp_any y x W)
      obtain ⟨y1, y2, y3⟩ := y
      simp only at q0 q1 q2 LT GE C
      clear hy hh
      by_cases hc : y1 < x
      · rw [cmpI_neg hc] at C
        have HS := Lib.hid (LT.out hc)
        clear hc
        go_wp2_with fail
        refine (C.out _).mono ?_
        rintro e w1 ⟨rfl, hb⟩
        have B1 := Lib.hid (show Below w.heap.size w w1 from bt hbe.out hb)
        clear hb hbe
        go_wp2
        go_roundw
        case rel => exact ⟨h + 1, j, by go_num, rfl, by omega, by omega, Lib.hid ⟨HS.out, hs.out.2⟩, B1⟩
        case measure => simp [intOf]; omega
      · have HS := Lib.hid (GE.out (by omega))
        obtain ⟨r, hr⟩ : ∃ r, cmpI y1 x = r := ⟨_, rfl⟩
        have r0 : ¬ r < 0 := by rw [← hr]; unfold cmpI; rw [if_neg hc]; split <;> omega
        rw [hr] at C
        have d0 : decide (r < 0) = false := decide_eq_false r0
        clear hc hr
        go_wp2_with fail
        refine (C.out _).mono ?_
        rintro e w1 ⟨rfl, hb⟩
        have B1 := Lib.hid (show Below w.heap.size w w1 from bt hbe.out hb)
        clear hb hbe
        go_wp2
        go_roundw
        case rel => exact ⟨i, h, rfl, rfl, by omega, by omega, Lib.hid ⟨hs.out.1, HS.out⟩, B1⟩
        case measure => simp [intOf]; omega
    · obtain rfl : i = j := by omega
      have hpos := HK.out.place x i (by rw [HE.out]; exact hj) hs.out.1 hs.out.2
      by_cases hlast : i < N
      · obtain ⟨b, off, rfl, q0, q1, q2⟩ := AcA.at_ (HP.out.mono hbe.out) (k := i) (by rw [HE.out]; omega)
        have hhas : hasA l x = decide ((l.getD i (0, 0, 0)).1 = x) := by
          unfold hasA
          apply decide_eq_decide.mpr
          rw [← hpos, HE.out]
          exact ⟨fun e => e.2, fun e => ⟨hlast, e⟩⟩
        obtain ⟨y, hy⟩ : ∃ y, l.getD i (0, 0, 0) = y := ⟨_, rfl⟩
        rw [hy] at q0 q1 q2 hhas
        have C := Lib.hid (fun W => findcmp_any y x W)
        obtain ⟨y1, y2, y3⟩ := y
        simp only at q0 q1 q2 hhas C
        have HPOS := Lib.hid hpos
        clear hy hs hpos
        by_cases heq : y1 = x
        · subst heq
          rw [cmpI_zero] at C
          have HH := Lib.hid (show hasA l y1 = true by rw [hhas]; simp)
          clear hhas
          go_wp2_with fail
          refine (C.out _).mono ?_
          rintro e w1 ⟨rfl, hb⟩
          have B1 := Lib.hid (show Below w.heap.size w w1 from bt hbe.out hb)
          clear hb hbe
          go_wp2
          refine bodyPost_ret (by simp [results, Try.results45, go_sem]; try rfl) rfl ?_
          exact ⟨by rw [HH.out, ← HPOS.out], B1.out⟩
        · obtain ⟨r, hr⟩ : ∃ r, cmpI y1 x = r := ⟨_, rfl⟩
          have r0 : ¬ r = 0 := by rw [← hr]; unfold cmpI; split; omega; split <;> omega
          rw [hr] at C
          have d0 : (r == 0) = false := beq_eq_false_iff_ne.2 r0
          have HH := Lib.hid (show hasA l x = false by rw [hhas]; exact decide_eq_false heq)
          clear hhas heq hr
          go_wp2_with fail
          refine (C.out _).mono ?_
          rintro e w1 ⟨rfl, hb⟩
          have B1 := Lib.hid (show Below w.heap.size w w1 from bt hbe.out hb)
          clear hb hbe
          go_wp2
          refine bodyPost_ret (by simp [results, Try.results45, go_sem]; try rfl) rfl ?_
          exact ⟨by rw [HH.out, ← HPOS.out], B1.out⟩
      · have HPOS := Lib.hid hpos
        have HH := Lib.hid (show hasA l x = false from decide_eq_false fun e => by rw [← hpos, HE.out] at e; omega)
        clear hs hpos
        go_wp2
        refine bodyPost_ret (by simp [results, Try.results45, go_sem]; try rfl) rfl ?_
        exact ⟨by rw [HH.out, ← HPOS.out], hbe.out⟩
end Go.Proofs.Ytjmegfejnocegaa
