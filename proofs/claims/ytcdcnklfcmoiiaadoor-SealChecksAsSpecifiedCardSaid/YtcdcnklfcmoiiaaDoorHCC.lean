/- Ported from another seat (wip/hash/CC.src, by wip/port.py): contracts that this chapter calls. -/
import Derived.Test.YtcdcnklfcmoiiaaDoorHBB
import Derived.Laws.BitsAllLaws
import Derived.WalkKit
import Derived.WalkLawsBesides
import Derived.WalkSpells
import Derived.StillTactics
import Derived.Laws.Pointers
import Derived.Lib.MinMax
import Derived.RowKit3
import Derived.Outline
import Derived.Lib.Hide
import Derived.Lib.QuietBelow
import Derived.OpenShut
import Derived.Deep.QuietTactic
import Derived.BigQuiet
import Derived.Lib.Zigzag
namespace Go.Proofs.YtcdcnklfcmoiiaaDoor
set_option linter.unusedVariables false
set_option linter.unusedSimpArgs false
namespace Hs
namespace Wi
open Go.RowKit
/-- Small numbers stay small, whatever their sign. -/
def foldZ (n : Int) : Nat := if n < 0 then (2 * (-1 - n) + 1).toNat else (2 * n).toNat
set_option maxRecDepth 100000 in
theorem fold_lt (n : Int) (h1 : -9223372036854775808 ≤ n) (h2 : n ≤ 9223372036854775807) : foldZ n < 18446744073709551616 := by
  unfold foldZ
  split <;> omega
/-- The digits of base 128, the least first; all but the last are raised by 128. -/
def digs (z : Nat) : List Nat := if z < 128 then [z] else (z % 128 + 128) :: digs (z / 128)
termination_by z
decreasing_by omega
set_option maxRecDepth 100000 in
theorem digs_lo {z : Nat} (h : z < 128) : digs z = [z] := by rw [digs, if_pos h]
set_option maxRecDepth 100000 in
theorem digs_hi {z : Nat} (h : 128 ≤ z) : digs z = (z % 128 + 128) :: digs (z / 128) := by rw [digs, if_neg (by omega)]
set_option maxRecDepth 100000 in
theorem digs_ne (z : Nat) : 1 ≤ (digs z).length := by
  rw [digs]; split <;> simp
set_option maxRecDepth 100000 in
theorem digs_len : ∀ (k z : Nat), z < 2 ^ (7 * (k + 1)) → (digs z).length ≤ k + 1
  | 0, z, h => by rw [digs_lo (by simpa using h)]; simp
  | k + 1, z, h => by
    by_cases hz : z < 128
    · rw [digs_lo hz]; simp
    · rw [digs_hi (by omega), List.length_cons]
      have e : 7 * (k + 1 + 1) = 7 * (k + 1) + 7 := by omega
      rw [e, Nat.pow_add] at h
      have := digs_len k (z / 128) (by
        apply Nat.div_lt_of_lt_mul
        have e : (2 : Nat) ^ 7 = 128 := rfl
        rw [e] at h
        omega)
      omega
def enc (n : Int) : List Nat := digs (foldZ n)
set_option maxRecDepth 100000 in
theorem enc_len (n : Int) (h1 : -9223372036854775808 ≤ n) (h2 : n ≤ 9223372036854775807) : 1 ≤ (enc n).length ∧ (enc n).length ≤ 10 :=
  ⟨digs_ne _, digs_len 9 _ (Nat.lt_trans (fold_lt n h1 h2) (by decide))⟩
set_option maxRecDepth 100000 in
theorem xor_lo (x : Nat) (h : x < 18446744073709551616) : bits .xor .u64 (x : Int) 0 = x := by
  have := bits_xor_u64_nat x 0 h (by decide)
  simpa using this
set_option maxRecDepth 100000 in
theorem xor_hi (x : Nat) (h : x < 18446744073709551616) : bits .xor .u64 (x : Int) 18446744073709551615 = 18446744073709551615 - (x : Int) := by
  have := bits_xor_u64_nat x (2 ^ 64 - 1) h (by decide)
  rw [Nat.xor_comm, Lib.xor_ones64 x (by omega)] at this
  have e : ((2 ^ 64 - 1 : Nat) : Int) = 18446744073709551615 := by decide
  rw [e] at this
  rw [this]; omega
set_option maxRecDepth 100000 in
theorem fold_bits (n : Int) (h1 : -9223372036854775808 ≤ n) (h2 : n ≤ 9223372036854775807) : bits .xor .u64 (IntKind.u64.wrap (IntKind.u64.wrap n * 2)) (IntKind.u64.wrap (n / 9223372036854775808)) = (foldZ n : Nat) := by
  rw [IntKind.wrap_u64, IntKind.wrap_u64, IntKind.wrap_u64]
  unfold foldZ
  split
  · have e : n % 18446744073709551616 * 2 % 18446744073709551616 = ((2 * n + 18446744073709551616).toNat : Nat) := by omega
    rw [show n / 9223372036854775808 % 18446744073709551616 = 18446744073709551615 by omega, e, xor_hi _ (by omega)]
    omega
  · have e : n % 18446744073709551616 * 2 % 18446744073709551616 = ((2 * n).toNat : Nat) := by omega
    rw [show n / 9223372036854775808 % 18446744073709551616 = 0 by omega, e, xor_lo _ (by omega)]
set_option maxRecDepth 100000 in
theorem fold_any (n : Int) (w : World) (h1 : -9223372036854775808 ≤ n) (h2 : n ≤ 9223372036854775807) :
    Calls Tryd.prog 106 #[.int .i64 n] w fun e w' => e = .returned (.int .u64 (foldZ n : Nat)) ∧ w = w' := by
  go_enter Tryd.func106, Tryd.ntmps106
  go_wp2
  go_ret
  exact ⟨ret_int (fold_bits n h1 h2), rfl⟩
set_option maxRecDepth 100000 in
theorem or_hi (z : Nat) : Value.int .u8 (bits .or .u8 (IntKind.u8.wrap (z : Int)) 128) = bv (z % 128 + 128) := by
  have h : IntKind.u8.wrap (z : Int) = ((z % 256 : Nat) : Int) := by rw [IntKind.wrap_u8']; omega
  have h2 := u8_or_nat (z % 256) 128 (by omega) (by omega)
  have h3 : z % 256 ||| 128 = z % 128 + 128 := by
    rcases Nat.lt_or_ge (z % 256) 128 with h | h
    · rw [Nat.or_comm, nat_join 7 128 (z % 256) (by decide) (by simpa using h)]; omega
    · have : z % 256 = 128 + z % 128 := by omega
      rw [this, ← nat_join 7 128 (z % 128) (by decide) (by omega), Nat.or_assoc, Nat.or_comm (z % 128), ← Nat.or_assoc, Nat.or_self, nat_join 7 128 (z % 128) (by decide) (by omega)]
      omega
  rw [h]
  unfold bv
  rw [← h3]
  exact congrArg _ h2
set_option maxRecDepth 100000 in
set_option maxHeartbeats 1000000 in
theorem appendInt_any (n : Int) (B : Nat) (v : Value) (l : List Nat) (w : World) (h1 : -9223372036854775808 ≤ n) (h2 : n ≤ 9223372036854775807) (hB : B ≤ w.heap.size) (hown : OwnB w B v l) (hl : l.length ≤ 1000000) :
    Calls Tryd.prog 98 #[v, .int .i64 n] w (Gives B w (l ++ enc n)) := by
  obtain ⟨i0, hi, hz0, hz1, hz2⟩ := info_parts infoB
  have HO := Lib.hid hown; clear hown
  have HF := Lib.hid (fold_lt n h1 h2)
  go_enter Tryd.func98, Tryd.ntmps98
  go_wp2_with fail
  refine (fold_any _ _ (by omega) (by omega)).mono ?_
  rintro e w1 ⟨rfl, rfl⟩
  obtain ⟨z0, hz⟩ : ∃ z, foldZ n = z := ⟨_, rfl⟩
  rw [hz] at HF ⊢
  have HZ := Lib.hid hz; clear hz
  go_wp2
  go_loopw [0, 5] (fun u0 u5 wr => ∃ (z : Nat) (pre : List Nat), u5 = .int .u64 (z : Nat) ∧ Hid (z < 18446744073709551616) ∧ Hid (pre ++ digs z = digs z0) ∧ Hid (OwnB wr B u0 (l ++ pre)) ∧ Hid (pre.length ≤ 10) ∧ Hid (Below B w wr)) (fun u0 u5 _ => (intOf u5).toNat)
  case atStart => exact ⟨z0, [], rfl, HF, rfl, Lib.hid (by rw [List.append_nil]; exact HO.out), Lib.hid (Nat.zero_le _), Below.refl _ _⟩
  case round =>
    obtain ⟨z, pre, rfl, hzl, hpre, how, hpl, hbe⟩ := hrel
    by_cases hz : 128 ≤ z
    · go_wp2_with (at_builtin; refine wpApp rfl _ _ rfl B _ _ rfl how.out (z % 128 + 128) _ ?hy rfl ?hlen ?hBB ?_)
      case hy => exact or_hi z
      case hlen => have := hpl.out; rw [List.length_append]; omega
      case hBB => exact Nat.le_trans hB hbe.out.size
      intro v' w2 hown' hb2
      have HO' := Lib.hid hown'
      have HB2 := Lib.hid (hbe.out.trans hb2)
      clear hown' hb2
      go_wp2
      go_roundw
      case rel => 
        have hp := hpre.out
        rw [digs_hi hz] at hp
        exact ⟨z / 128, pre ++ [z % 128 + 128], by go_num, Lib.hid (by have := hzl.out; omega), Lib.hid (by rw [List.append_assoc]; exact hp), HO', Lib.hid (by have h3 := congrArg List.length hp; have h4 := digs_len 9 z0 (Nat.lt_trans HF.out (by decide)); rw [← h3, List.length_append, List.length_cons] at h4; have h5 := digs_ne (z / 128); rw [List.length_append, List.length_singleton]; omega), HB2⟩
      case measure => simp [intOf]; omega
    · go_wp2_with (at_builtin; refine wpApp rfl _ _ rfl B _ _ rfl how.out z _ ?hy rfl ?hlen ?hBB ?_)
      case hy => rfl
      case hlen => have := hpl.out; rw [List.length_append]; omega
      case hBB => exact Nat.le_trans hB hbe.out.size
      intro v' w2 hown' hb2
      have HO' := Lib.hid hown'
      have HB2 := Lib.hid (hbe.out.trans hb2)
      clear hown' hb2
      go_wp2
      go_ret
      have hp := hpre.out
      rw [digs_lo (by omega)] at hp
      refine ⟨_, rfl, ?_, HB2.out⟩
      show OwnB _ _ _ (l ++ digs (foldZ n))
      rw [HZ.out, ← hp]
      exact HO'.out
set_option maxRecDepth 100000 in
theorem int_any (n : Int) (w : World) (h1 : -9223372036854775808 ≤ n) (h2 : n ≤ 9223372036854775807) :
    Calls Tryd.prog 88 #[.int .i64 n] w (Gives w.heap.size w (enc n)) := by
  go_enter Tryd.func88, Tryd.ntmps88
  go_wp2_with fail
  refine (appendInt_any n w.heap.size _ [] w h1 h2 (Nat.le_refl _) (OwnB.nil _ _) (by simp)).mono ?_
  rintro e w1 ⟨v, rfl, hv, hb⟩
  go_wp2
  go_ret
  exact ⟨_, rfl, hv, hb⟩
set_option maxRecDepth 100000 in
theorem z_neg {n : Int} (h : n < 0) : (-1 - n) * 2 + 1 = (foldZ n : Nat) := by unfold foldZ; rw [if_pos h]; omega
set_option maxRecDepth 100000 in
theorem z_pos {n : Int} (h : 0 ≤ n) : n * 2 = (foldZ n : Nat) := by unfold foldZ; rw [if_neg (by omega)]; omega
set_option maxRecDepth 100000 in
set_option maxHeartbeats 1000000 in
theorem intref_any (n : Int) (w : World) (h1 : -9223372036854775808 ≤ n) (h2 : n ≤ 9223372036854775807) :
    Calls Tryd.prog 102 #[.int .i64 n] w (Gives w.heap.size w (enc n)) := by
  have HF := Lib.hid (fold_lt n h1 h2)
  by_cases h0 : n < 0
  all_goals
    go_enter Tryd.func102, Tryd.ntmps102
    go_wp2
    try rw [z_neg h0]
    try rw [z_pos h0]
    obtain ⟨z0, hz⟩ : ∃ z, foldZ n = z := ⟨_, rfl⟩
    rw [hz] at HF ⊢
    have HZ := Lib.hid hz; clear hz
    go_loopw [3, 4] (fun u3 u4 wr => ∃ (z : Nat) (pre : List Nat), u3 = .int .u64 (z : Nat) ∧ Hid (z < 18446744073709551616) ∧ Hid (pre ++ digs z = digs z0) ∧ Hid (OwnB wr w.heap.size u4 pre) ∧ Hid (pre.length ≤ 10) ∧ Hid (Below w.heap.size w wr)) (fun u3 u4 _ => (intOf u3).toNat)
    case atStart => exact ⟨z0, [], rfl, HF, rfl, OwnB.nil _ _, Lib.hid (Nat.zero_le _), Below.refl _ _⟩
    case round =>
      obtain ⟨z, pre, rfl, hzl, hpre, how, hpl, hbe⟩ := hrel
      by_cases hz : 128 ≤ z
      · have wz : IntKind.u64.wrap ((z : Int) / 128) = (z : Int) / 128 := by have := hzl.out; rw [IntKind.wrap_u64]; omega
        go_wp2_with (at_builtin; refine wpApp rfl _ _ rfl w.heap.size _ _ rfl how.out (z % 128 + 128) _ ?hy rfl ?hlen ?hBB ?_)
        case hy => rfl
        case hlen => have := hpl.out; omega
        case hBB => exact hbe.out.size
        intro v' w2 hown' hb2
        have HO' := Lib.hid hown'
        have HB2 := Lib.hid (hbe.out.trans hb2)
        clear hown' hb2
        go_wp2
        go_roundw
        case rel => 
          have hp := hpre.out
          rw [digs_hi hz] at hp
          exact ⟨z / 128, pre ++ [z % 128 + 128], by go_num, Lib.hid (by have := hzl.out; omega), Lib.hid (by rw [List.append_assoc]; exact hp), HO', Lib.hid (by have h3 := congrArg List.length hp; have h4 := digs_len 9 z0 (Nat.lt_trans HF.out (by decide)); rw [← h3, List.length_append, List.length_cons] at h4; have h5 := digs_ne (z / 128); rw [List.length_append, List.length_singleton]; omega), HB2⟩
        case measure => simp [intOf]; omega
      · go_wp2_with (at_builtin; refine wpApp rfl _ _ rfl w.heap.size _ _ rfl how.out z _ ?hy rfl ?hlen ?hBB ?_)
        case hy => rfl
        case hlen => have := hpl.out; omega
        case hBB => exact hbe.out.size
        intro v' w2 hown' hb2
        have HO' := Lib.hid hown'
        have HB2 := Lib.hid (hbe.out.trans hb2)
        clear hown' hb2
        go_wp2
        go_ret
        have hp := hpre.out
        rw [digs_lo (by omega)] at hp
        refine ⟨_, rfl, ?_, HB2.out⟩
        show OwnB _ _ _ (digs (foldZ n))
        rw [HZ.out, ← hp]
        exact HO'.out
end Wi
end Hs
end Go.Proofs.YtcdcnklfcmoiiaaDoor
