/- Contracts: powers of two. -/
import Derived.Test.YtmmjkhamknfhpaaDoorHK
import Derived.Test.YtmmjkhamknfhpaaDoorM
namespace Go.Proofs.YtmmjkhamknfhpaaDoor
set_option linter.unusedVariables false
set_option linter.unusedSimpArgs false
open Go.RowKit
/-- Is n one of the powers of two that an int holds? -/
def pw (n : Int) : Bool := decide (∃ k : Nat, k < 63 ∧ n = ((2 ^ k : Nat) : Int))
theorem pw_pos {n : Int} (h : pw n = true) : 0 < n := by
  obtain ⟨k, -, rfl⟩ := of_decide_eq_true h
  have := Nat.two_pow_pos k
  omega
theorem pw_nat (N : Nat) (h0 : N ≠ 0) (h1 : N < 9223372036854775808) : pw (N : Int) = decide (N &&& (N - 1) = 0) := by
  unfold pw
  rw [decide_eq_decide, Nat.and_sub_one_eq_zero_iff_isPowerOfTwo h0]
  constructor
  · rintro ⟨k, -, hk⟩
    exact ⟨k, by omega⟩
  · rintro ⟨k, rfl⟩
    refine ⟨k, ?_, rfl⟩
    apply Classical.byContradiction
    intro hn
    have := Nat.pow_le_pow_right (n := 2) (by decide) (show 63 ≤ k by omega)
    have e : (2 : Nat) ^ 63 = 9223372036854775808 := by decide
    omega
set_option maxHeartbeats 400000 in
theorem ispow_any (n : Int) (w : World) (h1 : -9223372036854775808 ≤ n) (h2 : n ≤ 9223372036854775807) :
    Calls Tryd.prog 30 #[.int .i64 n] w fun e w' => e = .returned (.bool (pw n)) ∧ w = w' := by
  by_cases h0 : n ≤ 0
  · have hp : pw n = false := by
      cases h : pw n
      · rfl
      · have := pw_pos h; omega
    rw [hp]
    clear hp
    go_enter Tryd.func30, Tryd.ntmps30
    go_wp2
    go_ret
    exact ⟨rfl, rfl⟩
  · obtain ⟨N, rfl⟩ : ∃ N : Nat, n = (N : Int) := ⟨n.toNat, by omega⟩
    have hp := pw_nat N (by omega) (by omega)
    have ha := i64_and_nat N (N - 1) (by omega) (by omega)
    have e1 : ((N - 1 : Nat) : Int) = (N : Int) - 1 := by omega
    rw [e1] at ha
    obtain ⟨X, hX⟩ : ∃ X, N &&& (N - 1) = X := ⟨_, rfl⟩
    rw [hX] at ha hp
    have w1 : IntKind.i64.wrap ((N : Int) - 1) = (N : Int) - 1 := by rw [IntKind.wrap_i64]; omega
    rw [hp]
    clear hp hX e1
    by_cases hx : X = 0
    · have q : ((X : Int) == 0) = true := beq_iff_eq.2 (by omega)
      have d : decide (X = 0) = true := decide_eq_true hx
      rw [d]
      clear hx d
      go_enter Tryd.func30, Tryd.ntmps30
      go_wp2
      go_ret
      exact ⟨rfl, rfl⟩
    · have q : ((X : Int) == 0) = false := beq_eq_false_iff_ne.2 (by omega)
      have d : decide (X = 0) = false := decide_eq_false hx
      rw [d]
      clear hx d
      go_enter Tryd.func30, Tryd.ntmps30
      go_wp2
      go_ret
      exact ⟨rfl, rfl⟩
def pmeas (x : Int) : Nat := if x ≤ 0 then 0 else 9223372036854775808 - x.toNat
set_option maxHeartbeats 400000 in
theorem powref_any (n : Int) (w : World) (h1 : -9223372036854775808 ≤ n) (h2 : n ≤ 9223372036854775807) :
    Calls Tryd.prog 31 #[.int .i64 n] w fun e w' => e = .returned (.bool (pw n)) ∧ w = w' := by
  have PW := Lib.hid (show pw n = true ↔ ∃ k : Nat, k < 63 ∧ n = ((2 ^ k : Nat) : Int) from decide_eq_true_iff)
  obtain ⟨b, hb⟩ : ∃ b, pw n = b := ⟨_, rfl⟩
  rw [hb] at PW ⊢
  clear hb
  go_enter Tryd.func31, Tryd.ntmps31
  go_wp2
  go_loopw [3] (fun u3 wr => ∃ K : Int, u3 = .int .i64 K ∧ Hid (∃ j : Nat, (∀ i : Nat, i < j → n ≠ ((2 ^ i : Nat) : Int)) ∧ ((j < 63 ∧ K = ((2 ^ j : Nat) : Int)) ∨ (j = 63 ∧ K = -9223372036854775808))) ∧ w = wr) (fun u3 _ => pmeas (intOf u3))
  case atStart => exact ⟨1, rfl, Lib.hid ⟨0, fun i hi => absurd hi (by omega), Or.inl ⟨by decide, rfl⟩⟩, rfl⟩
  case round =>
    obtain ⟨K, rfl, hK, rfl⟩ := hrel
    obtain ⟨j, hj, hc⟩ := hK.out
    rcases hc with ⟨hj63, hKj⟩ | ⟨hj63, hKj⟩
    · have hpos := Nat.two_pow_pos j
      have hle := Nat.pow_le_pow_right (n := 2) (by decide) (show j ≤ 62 by omega)
      have e62 : (2 : Nat) ^ 62 = 4611686018427387904 := by decide
      have K1 : 0 < K := by omega
      have K2 : K ≤ 4611686018427387904 := by omega
      by_cases hle2 : K ≤ n
      · by_cases heq : K = n
        · have q : (K == n) = true := beq_iff_eq.2 heq
          have hbt : b = true := PW.out.2 ⟨j, hj63, by omega⟩
          clear hK hj hKj hle hpos e62 PW heq
          subst hbt
          go_wp2
          go_ret
          exact ⟨rfl, rfl⟩
        · have q : (K == n) = false := beq_eq_false_iff_ne.2 heq
          obtain ⟨K', hK'⟩ : ∃ K', IntKind.i64.wrap (K * 2) = K' := ⟨_, rfl⟩
          have hn2 : ∀ i : Nat, i < j + 1 → n ≠ ((2 ^ i : Nat) : Int) := fun i hi => by
            rcases Nat.lt_or_ge i j with h | h
            · exact hj i h
            · rw [show i = j by omega, ← hKj]; exact fun h => heq h.symm
          have HX := Lib.hid (show ∃ j : Nat, (∀ i : Nat, i < j → n ≠ ((2 ^ i : Nat) : Int)) ∧ ((j < 63 ∧ K' = ((2 ^ j : Nat) : Int)) ∨ (j = 63 ∧ K' = -9223372036854775808)) by
            refine ⟨j + 1, hn2, ?_⟩
            rw [IntKind.wrap_i64] at hK'
            rcases Nat.lt_or_ge (j + 1) 63 with h | h
            · have hle3 := Nat.pow_le_pow_right (n := 2) (by decide) (show j + 1 ≤ 62 by omega)
              have e3 : (2 : Nat) ^ (j + 1) = 2 * 2 ^ j := by rw [Nat.pow_succ]; omega
              exact Or.inl ⟨h, by omega⟩
            · have : j = 62 := by omega
              subst this
              exact Or.inr ⟨rfl, by omega⟩)
          have HM := Lib.hid (show K' ≤ 0 ∨ (K < K' ∧ K' ≤ 9223372036854775807) by
            rw [IntKind.wrap_i64] at hK'
            omega)
          clear hK hj hKj hle hpos e62 hn2 heq
          go_wp2
          go_roundw
          case rel => exact ⟨K', rfl, HX, by trivial⟩
          case measure =>
            have := HM.out
            show pmeas K' < pmeas K
            unfold pmeas
            split <;> split <;> omega
      · have hbf : b = false := by
          cases b
          · rfl
          · obtain ⟨k, hk, hk2⟩ := PW.out.1 rfl
            rcases Nat.lt_or_ge k j with h | h
            · exact absurd hk2 (hj k h)
            · have := Nat.pow_le_pow_right (n := 2) (by decide) h
              omega
        clear hK hj hKj hle hpos e62 PW
        subst hbf
        go_wp2
        go_ret
        exact ⟨rfl, rfl⟩
    · have hbf : b = false := by
        cases b
        · rfl
        · obtain ⟨k, hk, hk2⟩ := PW.out.1 rfl
          exact absurd hk2 (hj k (by omega))
      clear hK hj PW
      subst hbf
      subst hKj
      go_wp2
      go_ret
      exact ⟨rfl, rfl⟩
end Go.Proofs.YtmmjkhamknfhpaaDoor
