/- Ported from another seat (wip/hash/B.src, by wip/port.py): contracts that this chapter calls. -/
import Derived.Test.YtcdcnklfcmoiiaaDoorHA
namespace Go.Proofs.YtcdcnklfcmoiiaaDoor
set_option linter.unusedVariables false
set_option linter.unusedSimpArgs false
namespace Hs
open Go.RowKit
abbrev wv (x : Nat) : Value := .int .u32 (x : Int)
set_option maxRecDepth 100000 in
theorem or_rot (x p q : Nat) (hx : x < 4294967296) : bits .or .u32 ((x : Int) * (p : Int) % 4294967296) ((x : Int) / (q : Int)) = (((x / q) ||| (x * p % 4294967296) : Nat) : Int) := by
  have h1 : (x : Int) * (p : Int) % 4294967296 = ((x * p % 4294967296 : Nat) : Int) := by simp
  have h2 : (x : Int) / (q : Int) = ((x / q : Nat) : Int) := by simp
  rw [h1, h2, Nat.or_comm]
  exact u32_or_nat _ _ (Nat.mod_lt _ (by decide)) (Nat.lt_of_le_of_lt (Nat.div_le_self _ _) hx)
set_option maxRecDepth 100000 in
theorem or_rot' (x p q : Nat) (hx : x < 4294967296) : bits .or .u32 ((x : Int) / (q : Int)) ((x : Int) * (p : Int) % 4294967296) = (((x / q) ||| (x * p % 4294967296) : Nat) : Int) := by
  have h1 : (x : Int) * (p : Int) % 4294967296 = ((x * p % 4294967296 : Nat) : Int) := by simp
  have h2 : (x : Int) / (q : Int) = ((x / q : Nat) : Int) := by simp
  rw [h1, h2]
  exact u32_or_nat _ _ (Nat.lt_of_le_of_lt (Nat.div_le_self _ _) hx) (Nat.mod_lt _ (by decide))
set_option maxRecDepth 100000 in
set_option maxHeartbeats 400000 in
theorem rot7 (x : Nat) (w : World) (hx : x < 4294967296) :
    Calls Tryd.prog 105 #[.int .u32 x, .int .i64 (-7)] w fun e w' => e = .returned (wv (rotr x 7)) ∧ w = w' := by
  have hb : bits .and .u64 (IntKind.u64.wrap (-7)) 31 = 25 := by decide
  have hv : bits .or .u32 ((x : Int) * 33554432 % 4294967296) ((x : Int) / 128) = ((rotr x 7 : Nat) : Int) := or_rot x 33554432 128 hx
  obtain ⟨r, hr⟩ : ∃ r, rotr x 7 = r := ⟨_, rfl⟩
  rw [hr]; rw [hr] at hv
  clear hr
  go_enter Tryd.func105, Tryd.ntmps105
  go_wp2
  go_ret
  exact ⟨rfl, rfl⟩
set_option maxRecDepth 100000 in
set_option maxHeartbeats 400000 in
theorem rot18 (x : Nat) (w : World) (hx : x < 4294967296) :
    Calls Tryd.prog 105 #[.int .u32 x, .int .i64 (-18)] w fun e w' => e = .returned (wv (rotr x 18)) ∧ w = w' := by
  have hb : bits .and .u64 (IntKind.u64.wrap (-18)) 31 = 14 := by decide
  have hv : bits .or .u32 ((x : Int) * 16384 % 4294967296) ((x : Int) / 262144) = ((rotr x 18 : Nat) : Int) := or_rot x 16384 262144 hx
  obtain ⟨r, hr⟩ : ∃ r, rotr x 18 = r := ⟨_, rfl⟩
  rw [hr]; rw [hr] at hv
  clear hr
  go_enter Tryd.func105, Tryd.ntmps105
  go_wp2
  go_ret
  exact ⟨rfl, rfl⟩
set_option maxRecDepth 100000 in
set_option maxHeartbeats 400000 in
theorem rot17 (x : Nat) (w : World) (hx : x < 4294967296) :
    Calls Tryd.prog 105 #[.int .u32 x, .int .i64 (-17)] w fun e w' => e = .returned (wv (rotr x 17)) ∧ w = w' := by
  have hb : bits .and .u64 (IntKind.u64.wrap (-17)) 31 = 15 := by decide
  have hv : bits .or .u32 ((x : Int) * 32768 % 4294967296) ((x : Int) / 131072) = ((rotr x 17 : Nat) : Int) := or_rot x 32768 131072 hx
  obtain ⟨r, hr⟩ : ∃ r, rotr x 17 = r := ⟨_, rfl⟩
  rw [hr]; rw [hr] at hv
  clear hr
  go_enter Tryd.func105, Tryd.ntmps105
  go_wp2
  go_ret
  exact ⟨rfl, rfl⟩
set_option maxRecDepth 100000 in
set_option maxHeartbeats 400000 in
theorem rot19 (x : Nat) (w : World) (hx : x < 4294967296) :
    Calls Tryd.prog 105 #[.int .u32 x, .int .i64 (-19)] w fun e w' => e = .returned (wv (rotr x 19)) ∧ w = w' := by
  have hb : bits .and .u64 (IntKind.u64.wrap (-19)) 31 = 13 := by decide
  have hv : bits .or .u32 ((x : Int) * 8192 % 4294967296) ((x : Int) / 524288) = ((rotr x 19 : Nat) : Int) := or_rot x 8192 524288 hx
  obtain ⟨r, hr⟩ : ∃ r, rotr x 19 = r := ⟨_, rfl⟩
  rw [hr]; rw [hr] at hv
  clear hr
  go_enter Tryd.func105, Tryd.ntmps105
  go_wp2
  go_ret
  exact ⟨rfl, rfl⟩
set_option maxRecDepth 100000 in
set_option maxHeartbeats 400000 in
theorem rot6 (x : Nat) (w : World) (hx : x < 4294967296) :
    Calls Tryd.prog 105 #[.int .u32 x, .int .i64 (-6)] w fun e w' => e = .returned (wv (rotr x 6)) ∧ w = w' := by
  have hb : bits .and .u64 (IntKind.u64.wrap (-6)) 31 = 26 := by decide
  have hv : bits .or .u32 ((x : Int) * 67108864 % 4294967296) ((x : Int) / 64) = ((rotr x 6 : Nat) : Int) := or_rot x 67108864 64 hx
  obtain ⟨r, hr⟩ : ∃ r, rotr x 6 = r := ⟨_, rfl⟩
  rw [hr]; rw [hr] at hv
  clear hr
  go_enter Tryd.func105, Tryd.ntmps105
  go_wp2
  go_ret
  exact ⟨rfl, rfl⟩
set_option maxRecDepth 100000 in
theorem rotq6 (x : Nat) (w : World) (hx : x < 4294967296) :
    Calls Tryd.prog 105 #[.int .u32 x, .int .i64 (-6)] w fun e w' => e = .returned (wv (rotr x 6)) ∧ w' = w := (rot6 x w hx).mono fun _ _ ⟨h, k⟩ => ⟨h, k.symm⟩
set_option maxRecDepth 100000 in
set_option maxHeartbeats 400000 in
theorem rot11 (x : Nat) (w : World) (hx : x < 4294967296) :
    Calls Tryd.prog 105 #[.int .u32 x, .int .i64 (-11)] w fun e w' => e = .returned (wv (rotr x 11)) ∧ w = w' := by
  have hb : bits .and .u64 (IntKind.u64.wrap (-11)) 31 = 21 := by decide
  have hv : bits .or .u32 ((x : Int) * 2097152 % 4294967296) ((x : Int) / 2048) = ((rotr x 11 : Nat) : Int) := or_rot x 2097152 2048 hx
  obtain ⟨r, hr⟩ : ∃ r, rotr x 11 = r := ⟨_, rfl⟩
  rw [hr]; rw [hr] at hv
  clear hr
  go_enter Tryd.func105, Tryd.ntmps105
  go_wp2
  go_ret
  exact ⟨rfl, rfl⟩
set_option maxRecDepth 100000 in
theorem rotq11 (x : Nat) (w : World) (hx : x < 4294967296) :
    Calls Tryd.prog 105 #[.int .u32 x, .int .i64 (-11)] w fun e w' => e = .returned (wv (rotr x 11)) ∧ w' = w := (rot11 x w hx).mono fun _ _ ⟨h, k⟩ => ⟨h, k.symm⟩
set_option maxRecDepth 100000 in
set_option maxHeartbeats 400000 in
theorem rot25 (x : Nat) (w : World) (hx : x < 4294967296) :
    Calls Tryd.prog 105 #[.int .u32 x, .int .i64 (-25)] w fun e w' => e = .returned (wv (rotr x 25)) ∧ w = w' := by
  have hb : bits .and .u64 (IntKind.u64.wrap (-25)) 31 = 7 := by decide
  have hv : bits .or .u32 ((x : Int) * 128 % 4294967296) ((x : Int) / 33554432) = ((rotr x 25 : Nat) : Int) := or_rot x 128 33554432 hx
  obtain ⟨r, hr⟩ : ∃ r, rotr x 25 = r := ⟨_, rfl⟩
  rw [hr]; rw [hr] at hv
  clear hr
  go_enter Tryd.func105, Tryd.ntmps105
  go_wp2
  go_ret
  exact ⟨rfl, rfl⟩
set_option maxRecDepth 100000 in
theorem rotq25 (x : Nat) (w : World) (hx : x < 4294967296) :
    Calls Tryd.prog 105 #[.int .u32 x, .int .i64 (-25)] w fun e w' => e = .returned (wv (rotr x 25)) ∧ w' = w := (rot25 x w hx).mono fun _ _ ⟨h, k⟩ => ⟨h, k.symm⟩
set_option maxRecDepth 100000 in
set_option maxHeartbeats 400000 in
theorem rot2 (x : Nat) (w : World) (hx : x < 4294967296) :
    Calls Tryd.prog 105 #[.int .u32 x, .int .i64 (-2)] w fun e w' => e = .returned (wv (rotr x 2)) ∧ w = w' := by
  have hb : bits .and .u64 (IntKind.u64.wrap (-2)) 31 = 30 := by decide
  have hv : bits .or .u32 ((x : Int) * 1073741824 % 4294967296) ((x : Int) / 4) = ((rotr x 2 : Nat) : Int) := or_rot x 1073741824 4 hx
  obtain ⟨r, hr⟩ : ∃ r, rotr x 2 = r := ⟨_, rfl⟩
  rw [hr]; rw [hr] at hv
  clear hr
  go_enter Tryd.func105, Tryd.ntmps105
  go_wp2
  go_ret
  exact ⟨rfl, rfl⟩
set_option maxRecDepth 100000 in
set_option maxHeartbeats 400000 in
theorem rot13 (x : Nat) (w : World) (hx : x < 4294967296) :
    Calls Tryd.prog 105 #[.int .u32 x, .int .i64 (-13)] w fun e w' => e = .returned (wv (rotr x 13)) ∧ w = w' := by
  have hb : bits .and .u64 (IntKind.u64.wrap (-13)) 31 = 19 := by decide
  have hv : bits .or .u32 ((x : Int) * 524288 % 4294967296) ((x : Int) / 8192) = ((rotr x 13 : Nat) : Int) := or_rot x 524288 8192 hx
  obtain ⟨r, hr⟩ : ∃ r, rotr x 13 = r := ⟨_, rfl⟩
  rw [hr]; rw [hr] at hv
  clear hr
  go_enter Tryd.func105, Tryd.ntmps105
  go_wp2
  go_ret
  exact ⟨rfl, rfl⟩
set_option maxRecDepth 100000 in
set_option maxHeartbeats 400000 in
theorem rot22 (x : Nat) (w : World) (hx : x < 4294967296) :
    Calls Tryd.prog 105 #[.int .u32 x, .int .i64 (-22)] w fun e w' => e = .returned (wv (rotr x 22)) ∧ w = w' := by
  have hb : bits .and .u64 (IntKind.u64.wrap (-22)) 31 = 10 := by decide
  have hv : bits .or .u32 ((x : Int) * 1024 % 4294967296) ((x : Int) / 4194304) = ((rotr x 22 : Nat) : Int) := or_rot x 1024 4194304 hx
  obtain ⟨r, hr⟩ : ∃ r, rotr x 22 = r := ⟨_, rfl⟩
  rw [hr]; rw [hr] at hv
  clear hr
  go_enter Tryd.func105, Tryd.ntmps105
  go_wp2
  go_ret
  exact ⟨rfl, rfl⟩
set_option maxRecDepth 100000 in
set_option maxHeartbeats 400000 in
theorem rotref7 (x : Nat) (w : World) (hx : x < 4294967296) :
    Calls Tryd.prog 109 #[.int .u32 x, .int .i64 7] w fun e w' => e = .returned (wv (rotr x 7)) ∧ ∃ q, w' = w.drewN q := by
  have hv : bits .or .u32 ((x : Int) / 128) ((x : Int) * 33554432 % 4294967296) = ((rotr x 7 : Nat) : Int) := or_rot' x 33554432 128 hx
  obtain ⟨r, hr⟩ : ∃ r, rotr x 7 = r := ⟨_, rfl⟩
  rw [hr]; rw [hr] at hv
  clear hr
  go_enter Tryd.func109, Tryd.ntmps109
  go_wp2
  go_quiet (fail)
  go_wp2
  go_ret
  exact ⟨rfl, _, rfl⟩
set_option maxRecDepth 100000 in
set_option maxHeartbeats 400000 in
theorem rotref18 (x : Nat) (w : World) (hx : x < 4294967296) :
    Calls Tryd.prog 109 #[.int .u32 x, .int .i64 18] w fun e w' => e = .returned (wv (rotr x 18)) ∧ ∃ q, w' = w.drewN q := by
  have hv : bits .or .u32 ((x : Int) / 262144) ((x : Int) * 16384 % 4294967296) = ((rotr x 18 : Nat) : Int) := or_rot' x 16384 262144 hx
  obtain ⟨r, hr⟩ : ∃ r, rotr x 18 = r := ⟨_, rfl⟩
  rw [hr]; rw [hr] at hv
  clear hr
  go_enter Tryd.func109, Tryd.ntmps109
  go_wp2
  go_quiet (fail)
  go_wp2
  go_ret
  exact ⟨rfl, _, rfl⟩
set_option maxRecDepth 100000 in
set_option maxHeartbeats 400000 in
theorem rotref17 (x : Nat) (w : World) (hx : x < 4294967296) :
    Calls Tryd.prog 109 #[.int .u32 x, .int .i64 17] w fun e w' => e = .returned (wv (rotr x 17)) ∧ ∃ q, w' = w.drewN q := by
  have hv : bits .or .u32 ((x : Int) / 131072) ((x : Int) * 32768 % 4294967296) = ((rotr x 17 : Nat) : Int) := or_rot' x 32768 131072 hx
  obtain ⟨r, hr⟩ : ∃ r, rotr x 17 = r := ⟨_, rfl⟩
  rw [hr]; rw [hr] at hv
  clear hr
  go_enter Tryd.func109, Tryd.ntmps109
  go_wp2
  go_quiet (fail)
  go_wp2
  go_ret
  exact ⟨rfl, _, rfl⟩
set_option maxRecDepth 100000 in
set_option maxHeartbeats 400000 in
theorem rotref19 (x : Nat) (w : World) (hx : x < 4294967296) :
    Calls Tryd.prog 109 #[.int .u32 x, .int .i64 19] w fun e w' => e = .returned (wv (rotr x 19)) ∧ ∃ q, w' = w.drewN q := by
  have hv : bits .or .u32 ((x : Int) / 524288) ((x : Int) * 8192 % 4294967296) = ((rotr x 19 : Nat) : Int) := or_rot' x 8192 524288 hx
  obtain ⟨r, hr⟩ : ∃ r, rotr x 19 = r := ⟨_, rfl⟩
  rw [hr]; rw [hr] at hv
  clear hr
  go_enter Tryd.func109, Tryd.ntmps109
  go_wp2
  go_quiet (fail)
  go_wp2
  go_ret
  exact ⟨rfl, _, rfl⟩
set_option maxRecDepth 100000 in
set_option maxHeartbeats 400000 in
theorem rotref6 (x : Nat) (w : World) (hx : x < 4294967296) :
    Calls Tryd.prog 109 #[.int .u32 x, .int .i64 6] w fun e w' => e = .returned (wv (rotr x 6)) ∧ ∃ q, w' = w.drewN q := by
  have hv : bits .or .u32 ((x : Int) / 64) ((x : Int) * 67108864 % 4294967296) = ((rotr x 6 : Nat) : Int) := or_rot' x 67108864 64 hx
  obtain ⟨r, hr⟩ : ∃ r, rotr x 6 = r := ⟨_, rfl⟩
  rw [hr]; rw [hr] at hv
  clear hr
  go_enter Tryd.func109, Tryd.ntmps109
  go_wp2
  go_quiet (fail)
  go_wp2
  go_ret
  exact ⟨rfl, _, rfl⟩
set_option maxRecDepth 100000 in
set_option maxHeartbeats 400000 in
theorem rotref11 (x : Nat) (w : World) (hx : x < 4294967296) :
    Calls Tryd.prog 109 #[.int .u32 x, .int .i64 11] w fun e w' => e = .returned (wv (rotr x 11)) ∧ ∃ q, w' = w.drewN q := by
  have hv : bits .or .u32 ((x : Int) / 2048) ((x : Int) * 2097152 % 4294967296) = ((rotr x 11 : Nat) : Int) := or_rot' x 2097152 2048 hx
  obtain ⟨r, hr⟩ : ∃ r, rotr x 11 = r := ⟨_, rfl⟩
  rw [hr]; rw [hr] at hv
  clear hr
  go_enter Tryd.func109, Tryd.ntmps109
  go_wp2
  go_quiet (fail)
  go_wp2
  go_ret
  exact ⟨rfl, _, rfl⟩
set_option maxRecDepth 100000 in
set_option maxHeartbeats 400000 in
theorem rotref25 (x : Nat) (w : World) (hx : x < 4294967296) :
    Calls Tryd.prog 109 #[.int .u32 x, .int .i64 25] w fun e w' => e = .returned (wv (rotr x 25)) ∧ ∃ q, w' = w.drewN q := by
  have hv : bits .or .u32 ((x : Int) / 33554432) ((x : Int) * 128 % 4294967296) = ((rotr x 25 : Nat) : Int) := or_rot' x 128 33554432 hx
  obtain ⟨r, hr⟩ : ∃ r, rotr x 25 = r := ⟨_, rfl⟩
  rw [hr]; rw [hr] at hv
  clear hr
  go_enter Tryd.func109, Tryd.ntmps109
  go_wp2
  go_quiet (fail)
  go_wp2
  go_ret
  exact ⟨rfl, _, rfl⟩
set_option maxRecDepth 100000 in
set_option maxHeartbeats 400000 in
theorem rotref2 (x : Nat) (w : World) (hx : x < 4294967296) :
    Calls Tryd.prog 109 #[.int .u32 x, .int .i64 2] w fun e w' => e = .returned (wv (rotr x 2)) ∧ ∃ q, w' = w.drewN q := by
  have hv : bits .or .u32 ((x : Int) / 4) ((x : Int) * 1073741824 % 4294967296) = ((rotr x 2 : Nat) : Int) := or_rot' x 1073741824 4 hx
  obtain ⟨r, hr⟩ : ∃ r, rotr x 2 = r := ⟨_, rfl⟩
  rw [hr]; rw [hr] at hv
  clear hr
  go_enter Tryd.func109, Tryd.ntmps109
  go_wp2
  go_quiet (fail)
  go_wp2
  go_ret
  exact ⟨rfl, _, rfl⟩
set_option maxRecDepth 100000 in
set_option maxHeartbeats 400000 in
theorem rotref13 (x : Nat) (w : World) (hx : x < 4294967296) :
    Calls Tryd.prog 109 #[.int .u32 x, .int .i64 13] w fun e w' => e = .returned (wv (rotr x 13)) ∧ ∃ q, w' = w.drewN q := by
  have hv : bits .or .u32 ((x : Int) / 8192) ((x : Int) * 524288 % 4294967296) = ((rotr x 13 : Nat) : Int) := or_rot' x 524288 8192 hx
  obtain ⟨r, hr⟩ : ∃ r, rotr x 13 = r := ⟨_, rfl⟩
  rw [hr]; rw [hr] at hv
  clear hr
  go_enter Tryd.func109, Tryd.ntmps109
  go_wp2
  go_quiet (fail)
  go_wp2
  go_ret
  exact ⟨rfl, _, rfl⟩
set_option maxRecDepth 100000 in
set_option maxHeartbeats 400000 in
theorem rotref22 (x : Nat) (w : World) (hx : x < 4294967296) :
    Calls Tryd.prog 109 #[.int .u32 x, .int .i64 22] w fun e w' => e = .returned (wv (rotr x 22)) ∧ ∃ q, w' = w.drewN q := by
  have hv : bits .or .u32 ((x : Int) / 4194304) ((x : Int) * 1024 % 4294967296) = ((rotr x 22 : Nat) : Int) := or_rot' x 1024 4194304 hx
  obtain ⟨r, hr⟩ : ∃ r, rotr x 22 = r := ⟨_, rfl⟩
  rw [hr]; rw [hr] at hv
  clear hr
  go_enter Tryd.func109, Tryd.ntmps109
  go_wp2
  go_quiet (fail)
  go_wp2
  go_ret
  exact ⟨rfl, _, rfl⟩
end Hs
end Go.Proofs.YtcdcnklfcmoiiaaDoor
