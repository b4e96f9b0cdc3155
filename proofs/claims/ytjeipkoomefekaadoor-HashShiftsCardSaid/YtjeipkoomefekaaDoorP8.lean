/- The law HashShifts, walked. -/
import Derived.Test.YtjeipkoomefekaaDoorU
namespace Go.Proofs.YtjeipkoomefekaaDoor
set_option linter.unusedVariables false
set_option linter.unusedSimpArgs false
open Go.RowKit
set_option maxRecDepth 100000 in
set_option maxHeartbeats 1000000 in
theorem shifts (a b n m : Int) (w : World) (hla : LaidC w) : Calls Tryd.prog 8 #[.int .i64 a, .int .i64 b, .int .i64 n, .int .i64 m] w fun e w' => e = .returned (.bool true) ∧ Below w.heap.size w w' := by
  have kn := i64_low n; have km := i64_low m; have kb := i64_low b
  have ln := low_lt n; have lm := low_lt m; have lb := low_lt b; have l0 : low 0 = 0 := rfl
  obtain ⟨N, hN⟩ : ∃ N, low n = N := ⟨_, rfl⟩
  obtain ⟨M, hM⟩ : ∃ N, low m = N := ⟨_, rfl⟩
  rw [hN] at kn ln; rw [hM] at km lm
  obtain ⟨K, hK⟩ : ∃ K, N + M = K := ⟨_, rfl⟩
  have e1 : (N : Int) + (M : Int) = (K : Int) := by omega
  have KB : K < 2199023255552 := by omega
  have e2 : IntKind.i64.wrap ((N : Int) + (M : Int)) = (K : Int) := by rw [IntKind.wrap_i64]; omega
  have C1 := Lib.hid (fun W : World => join_any a 0 K W (by omega))
  have C2 := Lib.hid (fun W : World => join_any a 0 N W (by omega))
  have j1 := join_lt (low a) 0 N
  have C3 := Lib.hid (fun W : World => join_any ((join (low a) 0 N : Nat) : Int) 0 M W (by omega))
  have e3 : join (low ((join (low a) 0 N : Nat) : Int)) 0 M = join (low a) 0 K := by
    rw [low_nat, Nat.mod_eq_of_lt j1, join_shift, hK]
  have C4 := Lib.hid (fun W : World => join_any a b K W (by omega))
  have C5 := Lib.hid (fun W : World => join_any 0 b N W (by omega))
  have e4 := join_with (low a) (low b) K
  have e5 := join_none (low b) N
  rw [Nat.mod_eq_of_lt lb] at e4 e5
  have jl := join_lt (low a) 0 K
  rw [l0] at C1 C2 C3 C5
  rw [e3] at C3; rw [e4] at C4; rw [e5] at C5
  have kx : bits .xor .i64 ((join (low a) 0 K : Nat) : Int) ((low b : Nat) : Int) = ((join (low a) 0 K ^^^ low b : Nat) : Int) := i64_xor_nat _ _ (by omega) (by omega)
  obtain ⟨A1, hA1⟩ : ∃ A, join (low a) 0 N = A := ⟨_, rfl⟩
  obtain ⟨J1, hJ1⟩ : ∃ A, join (low a) 0 K = A := ⟨_, rfl⟩
  obtain ⟨B, hB⟩ : ∃ A, low b = A := ⟨_, rfl⟩
  obtain ⟨X, hX⟩ : ∃ A, J1 ^^^ B = A := ⟨_, rfl⟩
  rw [hA1] at C2 C3; rw [hJ1] at C1 C3 C4 kx; rw [hB] at C4 C5 kb kx; rw [hX] at C4 kx
  have LA := Lib.hid hla
  clear hla hN hM hK l0 j1 e3 e4 e5 hA1 hJ1 hB hX ln lm lb jl
  go_enter Tryd.func8, Tryd.ntmps8
  go_wp2_with fail
  refine (sane _ LA.out).mono ?_
  rintro e w1 ⟨rfl, hb1⟩
  have B1 := Lib.hid (show Below w.heap.size w w1 from hb1)
  clear hb1
  go_wp2_with fail
  refine (C1.out _).mono ?_
  rintro e w2 ⟨rfl, rfl⟩
  go_wp2_with fail
  refine (C2.out _).mono ?_
  rintro e w2 ⟨rfl, rfl⟩
  go_wp2_with fail
  refine (C3.out _).mono ?_
  rintro e w2 ⟨rfl, rfl⟩
  go_wp2_with fail
  refine (C4.out _).mono ?_
  rintro e w2 ⟨rfl, rfl⟩
  go_wp2_with fail
  refine (C5.out _).mono ?_
  rintro e w2 ⟨rfl, rfl⟩
  go_wp2
  go_ret
  exact ⟨rfl, B1.out⟩
end Go.Proofs.YtjeipkoomefekaaDoor
