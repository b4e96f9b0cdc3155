/- The law HashJoinMatchesSpec, walked. -/
import Derived.Test.YtjeipkoomefekaaDoorW
namespace Go.Proofs.YtjeipkoomefekaaDoor
set_option linter.unusedVariables false
set_option linter.unusedSimpArgs false
open Go.RowKit
theorem refjoin_neg (a b n : Int) (w : World) (hn : n < 0) : Calls Tryd.prog 27 #[.int .i64 a, .int .i64 b, .int .i64 n] w fun e w' => e = .returned (.int .i64 0) ∧ w = w' := by
  go_enter Tryd.func27, Tryd.ntmps27
  go_wp2
  go_ret
  exact ⟨rfl, rfl⟩
set_option maxHeartbeats 1000000 in
theorem refjoin_any (a b : Int) (n : Nat) (w : World) (hn : n ≤ 300) : Calls Tryd.prog 27 #[.int .i64 a, .int .i64 b, .int .i64 n] w fun e w' => e = .returned (.int .i64 ((join (low a) (low b) n : Nat) : Int)) ∧ w = w' := by
  have k1 := low_val a
  have k2 := low_val b
  have a40 := low_lt a
  have b40 := low_lt b
  have hj : join (low a) (low b) n = dblN (8 * n) (low a) ^^^ low b := by unfold join; rw [Nat.mod_eq_of_lt a40, Nat.mod_eq_of_lt b40]
  obtain ⟨A, hA⟩ : ∃ A, low a = A := ⟨_, rfl⟩
  obtain ⟨B, hB⟩ : ∃ B, low b = B := ⟨_, rfl⟩
  rw [hA] at k1 a40 hj ⊢; rw [hB] at k2 b40 hj ⊢
  have h8 : (8 : Int) * (n : Int) = ((8 * n : Nat) : Int) := by omega
  obtain ⟨M, hM⟩ : ∃ M, 8 * n = M := ⟨_, rfl⟩
  have HM : M ≤ 2400 := by omega
  rw [hM] at h8 hj
  have HJ := Lib.hid hj
  clear hA hB hj hM
  go_enter Tryd.func27, Tryd.ntmps27
  go_wp2
  go_loopw [7, 8] (fun ur ui wr => ∃ (i r : Nat), ui = .int .i64 i ∧ ur = .int .u64 r ∧ i ≤ M ∧ r < 1099511627776 ∧ Hid (r = dblN i A) ∧ w = wr) (fun _ ui _ => M - (intOf ui).toNat)
  case atStart => exact ⟨0, A, rfl, rfl, by omega, a40, Lib.hid rfl, rfl⟩
  case round =>
    obtain ⟨i, r, rfl, rfl, hi, hr, hd, rfl⟩ := hrel
    by_cases h0 : i < M
    · have cs := Lib.hid (fun W : World => step_any r 0 W hr (by omega))
      have sl := step_lt r 0
      have hd2 : step r 0 = dblN (i + 1) A := by rw [step_zero, dblN_succ, hd.out]
      obtain ⟨R, hR⟩ : ∃ R, step r 0 = R := ⟨_, rfl⟩
      rw [hR] at cs sl hd2
      have HD := Lib.hid hd2
      clear hR hd hd2
      go_wp2_with fail
      refine (cs.out _).mono ?_
      rintro e w1 ⟨rfl, rfl⟩
      go_wp2
      go_roundw
      case rel => exact ⟨i + 1, R, by go_num, rfl, by omega, sl, HD, trivial⟩
      case measure => simp [intOf]; omega
    · obtain rfl : i = M := by omega
      have hx : bits .xor .u64 (r : Int) (B : Int) = ((r ^^^ B : Nat) : Int) := u64_xor_nat r B (by omega) (by omega)
      have hlt2 : r ^^^ B < 1099511627776 := Nat.xor_lt_two_pow (n := 40) hr b40
      have hjj : join A B n = r ^^^ B := by rw [HJ.out, hd.out]
      obtain ⟨X, hX⟩ : ∃ X, r ^^^ B = X := ⟨_, rfl⟩
      rw [hX] at hx hlt2 hjj
      have HJ2 := Lib.hid hjj
      clear hX hjj hd
      go_wp2
      go_ret
      exact ⟨by rw [HJ2.out]; rfl, rfl⟩
set_option maxRecDepth 100000 in
set_option maxHeartbeats 1000000 in
theorem joinMatches (a b n : Int) (w : World) (n1 : -9223372036854775808 ≤ n) (n2 : n ≤ 9223372036854775807) (hla : LaidC w) : Calls Tryd.prog 6 #[.int .i64 a, .int .i64 b, .int .i64 n] w fun e w' => e = .returned (.bool true) ∧ Below w.heap.size w w' := by
  have LA := Lib.hid hla
  clear hla
  by_cases h3 : 300 < n
  · go_enter Tryd.func6, Tryd.ntmps6
    go_wp2_with fail
    refine (sane _ LA.out).mono ?_
    rintro e w1 ⟨rfl, hb1⟩
    have B1 := Lib.hid hb1
    clear hb1
    go_wp2
    go_ret
    exact ⟨rfl, B1.out⟩
  by_cases h4 : n < 0
  · have C1 := Lib.hid (fun W : World => join_neg a b n W h4)
    have C2 := Lib.hid (fun W : World => refjoin_neg a b n W h4)
    go_enter Tryd.func6, Tryd.ntmps6
    go_wp2_with fail
    refine (sane _ LA.out).mono ?_
    rintro e w1 ⟨rfl, hb1⟩
    have B1 := Lib.hid hb1
    clear hb1
    go_wp2_with fail
    refine (C1.out _).mono ?_
    rintro e w2 ⟨rfl, rfl⟩
    go_wp2_with fail
    refine (C2.out _).mono ?_
    rintro e w2 ⟨rfl, rfl⟩
    go_wp2
    go_ret
    exact ⟨rfl, B1.out⟩
  obtain ⟨N, rfl⟩ : ∃ N : Nat, n = (N : Int) := ⟨n.toNat, by omega⟩
  have N3 : N ≤ 300 := by omega
  have C1 := Lib.hid (fun W : World => join_any a b N W (by omega))
  have C2 := Lib.hid (fun W : World => refjoin_any a b N W N3)
  obtain ⟨J, hJ⟩ : ∃ J, join (low a) (low b) N = J := ⟨_, rfl⟩
  rw [hJ] at C1 C2
  clear hJ h4 h3
  go_enter Tryd.func6, Tryd.ntmps6
  go_wp2_with fail
  refine (sane _ LA.out).mono ?_
  rintro e w1 ⟨rfl, hb1⟩
  have B1 := Lib.hid hb1
  clear hb1
  go_wp2_with fail
  refine (C1.out _).mono ?_
  rintro e w2 ⟨rfl, rfl⟩
  go_wp2_with fail
  refine (C2.out _).mono ?_
  rintro e w2 ⟨rfl, rfl⟩
  go_wp2
  go_ret
  exact ⟨rfl, B1.out⟩
end Go.Proofs.YtjeipkoomefekaaDoor
