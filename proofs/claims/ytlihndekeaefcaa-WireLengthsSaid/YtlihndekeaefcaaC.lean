/- Contracts of the functions of wire: integers. -/
import Derived.Test.YtlihndekeaefcaaB
namespace Go.Proofs.Ytlihndekeaefcaa
set_option linter.unusedVariables false
set_option linter.unusedSimpArgs false
open Go.RowKit
theorem lo_byte (z : Nat) (h : z < 128) : Value.int .u8 (IntKind.u8.wrap (z : Int)) = bv z := by
  unfold bv
  rw [IntKind.wrap_u8']
  congr 1
  omega
theorem or_hi (z : Nat) : Value.int .u8 (bits .or .u8 (IntKind.u8.wrap (z : Int)) 128) = bv (z % 128 + 128) := by
  have h : IntKind.u8.wrap (z : Int) = ((z % 256 : Nat) : Int) := by rw [IntKind.wrap_u8']; omega
  have h2 := u8_or_nat (z % 256) 128 (by omega) (by omega)
  have h3 : z % 256 ||| 128 = z % 128 + 128 := by
    rcases Nat.lt_or_ge (z % 256) 128 with h | h
    · rw [Nat.or_comm, nat_join 7 128 (z % 256) (by decide) (by simpa using h)]; omega
    · have : z % 256 = 128 + z % 128 := by omega
      rw [this, ← nat_join 7 128 (z % 128) (by decide) (by omega), Nat.or_assoc, Nat.or_comm (z % 128), ← Nat.or_assoc, Nat.or_self, nat_join 7 128 (z % 128) (by decide) (by omega)]
      omega
  rw [h]
  unfold bv
  rw [← h3]
  exact congrArg _ h2
set_option maxRecDepth 100000 in
set_option maxHeartbeats 1000000 in
theorem appendInt_any (n : Int) (B : Nat) (v : Value) (l : List Nat) (w : World) (h1 : -9223372036854775808 ≤ n) (h2 : n ≤ 9223372036854775807) (hB : B ≤ w.heap.size) (hown : OwnB w B v l) (hl : l.length ≤ 1000000) :
    Calls Try.prog 38 #[v, .int .i64 n] w (Gives B w (l ++ enc n)) := by
  obtain ⟨i0, hi, hz0, hz1, hz2⟩ := info_parts infoB
  have HO := Lib.hid hown; clear hown
  have HF := Lib.hid (fold_lt n h1 h2)
  go_enter Try.func38, Try.ntmps38
  go_wp2_with fail
  refine (fold_any _ _ (by omega) (by omega)).mono ?_
  rintro e w1 ⟨rfl, rfl⟩
  obtain ⟨z0, hz⟩ : ∃ z, foldZ n = z := ⟨_, rfl⟩
  rw [hz] at HF ⊢
  have HZ := Lib.hid hz; clear hz
  go_wp2
  go_loopw [0, 5] (fun u0 u5 wr => ∃ (z : Nat) (pre : List Nat), u5 = .int .u64 (z : Nat) ∧ Hid (z < 18446744073709551616) ∧ Hid (pre ++ digs z = digs z0) ∧ Hid (OwnB wr B u0 (l ++ pre)) ∧ Hid (pre.length ≤ 10) ∧ Hid (Below B w wr)) (fun u0 u5 _ => (intOf u5).toNat)
  case atStart => exact ⟨z0, [], rfl, HF, rfl, Lib.hid (by rw [List.append_nil]; exact HO.out), Lib.hid (Nat.zero_le _), Below.refl _ _⟩
  case round =>
    obtain ⟨z, pre, rfl, hzl, hpre, how, hpl, hbe⟩ := hrel
    by_cases hz : 128 ≤ z
    · go_wp2_with (at_builtin; refine wpApp rfl _ _ rfl B _ _ rfl how.out (z % 128 + 128) _ ?hy rfl ?hlen ?hBB ?_)
      case hy => exact or_hi z
      case hlen => have := hpl.out; rw [List.length_append]; omega
      case hBB => exact Nat.le_trans hB hbe.out.size
      intro v' w2 hown' hb2
      have HO' := Lib.hid hown'
      have HB2 := Lib.hid (hbe.out.trans hb2)
      clear hown' hb2
      go_wp2
      go_roundw
      case rel => 
        have hp := hpre.out
        rw [digs_hi hz] at hp
        exact ⟨z / 128, pre ++ [z % 128 + 128], by go_num, Lib.hid (by have := hzl.out; omega), Lib.hid (by rw [List.append_assoc]; exact hp), HO', Lib.hid (by have h3 := congrArg List.length hp; have h4 := digs_len 9 z0 (Nat.lt_trans HF.out (by decide)); rw [← h3, List.length_append, List.length_cons] at h4; have h5 := digs_ne (z / 128); rw [List.length_append, List.length_singleton]; omega), HB2⟩
      case measure => simp [intOf]; omega
    · go_wp2_with (at_builtin; refine wpApp rfl _ _ rfl B _ _ rfl how.out z _ ?hy rfl ?hlen ?hBB ?_)
      case hy => rfl
      case hlen => have := hpl.out; rw [List.length_append]; omega
      case hBB => exact Nat.le_trans hB hbe.out.size
      intro v' w2 hown' hb2
      have HO' := Lib.hid hown'
      have HB2 := Lib.hid (hbe.out.trans hb2)
      clear hown' hb2
      go_wp2
      go_ret
      have hp := hpre.out
      rw [digs_lo (by omega)] at hp
      refine ⟨_, rfl, ?_, HB2.out⟩
      show OwnB _ _ _ (l ++ digs (foldZ n))
      rw [HZ.out, ← hp]
      exact HO'.out
theorem int_any (n : Int) (w : World) (h1 : -9223372036854775808 ≤ n) (h2 : n ≤ 9223372036854775807) :
    Calls Try.prog 14 #[.int .i64 n] w (Gives w.heap.size w (enc n)) := by
  go_enter Try.func14, Try.ntmps14
  go_wp2_with fail
  refine (appendInt_any n w.heap.size _ [] w h1 h2 (Nat.le_refl _) (OwnB.nil _ _) (by simp)).mono ?_
  rintro e w1 ⟨v, rfl, hv, hb⟩
  go_wp2
  go_ret
  exact ⟨_, rfl, hv, hb⟩
theorem z_neg {n : Int} (h : n < 0) : (-1 - n) * 2 + 1 = (foldZ n : Nat) := by unfold foldZ; rw [if_pos h]; omega
theorem z_pos {n : Int} (h : 0 ≤ n) : n * 2 = (foldZ n : Nat) := by unfold foldZ; rw [if_neg (by omega)]; omega
set_option maxRecDepth 100000 in
set_option maxHeartbeats 1000000 in
theorem intref_any (n : Int) (w : World) (h1 : -9223372036854775808 ≤ n) (h2 : n ≤ 9223372036854775807) :
    Calls Try.prog 15 #[.int .i64 n] w (Gives w.heap.size w (enc n)) := by
  have HF := Lib.hid (fold_lt n h1 h2)
  by_cases h0 : n < 0
  all_goals
    go_enter Try.func15, Try.ntmps15
    go_wp2
    try rw [z_neg h0]
    try rw [z_pos h0]
    obtain ⟨z0, hz⟩ : ∃ z, foldZ n = z := ⟨_, rfl⟩
    rw [hz] at HF ⊢
    have HZ := Lib.hid hz; clear hz
    go_loopw [3, 4] (fun u3 u4 wr => ∃ (z : Nat) (pre : List Nat), u3 = .int .u64 (z : Nat) ∧ Hid (z < 18446744073709551616) ∧ Hid (pre ++ digs z = digs z0) ∧ Hid (OwnB wr w.heap.size u4 pre) ∧ Hid (pre.length ≤ 10) ∧ Hid (Below w.heap.size w wr)) (fun u3 u4 _ => (intOf u3).toNat)
    case atStart => exact ⟨z0, [], rfl, HF, rfl, OwnB.nil _ _, Lib.hid (Nat.zero_le _), Below.refl _ _⟩
    case round =>
      obtain ⟨z, pre, rfl, hzl, hpre, how, hpl, hbe⟩ := hrel
      by_cases hz : 128 ≤ z
      · have wz : IntKind.u64.wrap ((z : Int) / 128) = (z : Int) / 128 := by have := hzl.out; rw [IntKind.wrap_u64]; omega
        go_wp2_with (at_builtin; refine wpApp rfl _ _ rfl w.heap.size _ _ rfl how.out (z % 128 + 128) _ ?hy rfl ?hlen ?hBB ?_)
        case hy => rfl
        case hlen => have := hpl.out; omega
        case hBB => exact hbe.out.size
        intro v' w2 hown' hb2
        have HO' := Lib.hid hown'
        have HB2 := Lib.hid (hbe.out.trans hb2)
        clear hown' hb2
        go_wp2
        go_roundw
        case rel => 
          have hp := hpre.out
          rw [digs_hi hz] at hp
          exact ⟨z / 128, pre ++ [z % 128 + 128], by go_num, Lib.hid (by have := hzl.out; omega), Lib.hid (by rw [List.append_assoc]; exact hp), HO', Lib.hid (by have h3 := congrArg List.length hp; have h4 := digs_len 9 z0 (Nat.lt_trans HF.out (by decide)); rw [← h3, List.length_append, List.length_cons] at h4; have h5 := digs_ne (z / 128); rw [List.length_append, List.length_singleton]; omega), HB2⟩
        case measure => simp [intOf]; omega
      · go_wp2_with (at_builtin; refine wpApp rfl _ _ rfl w.heap.size _ _ rfl how.out z _ ?hy rfl ?hlen ?hBB ?_)
        case hy => rfl
        case hlen => have := hpl.out; omega
        case hBB => exact hbe.out.size
        intro v' w2 hown' hb2
        have HO' := Lib.hid hown'
        have HB2 := Lib.hid (hbe.out.trans hb2)
        clear hown' hb2
        go_wp2
        go_ret
        have hp := hpre.out
        rw [digs_lo (by omega)] at hp
        refine ⟨_, rfl, ?_, HB2.out⟩
        show OwnB _ _ _ (digs (foldZ n))
        rw [HZ.out, ← hp]
        exact HO'.out
end Go.Proofs.Ytlihndekeaefcaa
