/- Contracts of the functions of hash: the reference's check. -/
import Derived.Test.YtjeipkoomefekaaDoorM3
import Derived.Test.YtjeipkoomefekaaDoorN
import Derived.Test.YtjeipkoomefekaaDoorRows
import Derived.WalkKit
import Derived.WalkLawsBesides
import Derived.WalkSpells
import Derived.StillTactics
import Derived.Laws.Pointers
import Derived.Lib.MinMax
import Derived.RowKit3
import Derived.Outline
import Derived.Lib.Hide
import Derived.Lib.QuietBelow
import Derived.OpenShut
import Derived.Deep.QuietTactic
import Derived.BigQuiet
namespace Go.Proofs.YtjeipkoomefekaaDoor
set_option linter.unusedVariables false
set_option linter.unusedSimpArgs false
open Go.RowKit
theorem below_dn {B n : Nat} {a w : World} (h : Below B a w) : Below B a (w.drewN n) := ⟨h.os, h.tape, h.output, h.size, h.block⟩
theorem bt {w a b : World} (h : Below w.heap.size w a) (k : Below a.heap.size a b) : Below w.heap.size w b := h.trans (k.mono h.size)
theorem ret_int {k : IntKind} {a b : Int} (h : a = b) : Ending.returned (.int k a) = .returned (.int k b) := by rw [h]
theorem ret_bool {a b : Bool} (h : a = b) : Ending.returned (.bool a) = .returned (.bool b) := by rw [h]
theorem keep {W W' : World} {b o : Nat} {v : Value} (h : W.cell? ⟨b, o, none⟩ = some v) (hb : Below W.heap.size W W') : W'.cell? ⟨b, o, none⟩ = some v := by
  rw [hb.cell (p := ⟨b, o, none⟩) (block_lt_of_cell h)]; exact h
/-- A byte in memory. -/
abbrev bv (x : Nat) : Value := .int .u8 (x : Int)
def BytesA (W : World) (a : Option Addr) (l : List Nat) : Prop := ∀ k, k < l.length → ∃ b off, a = some ⟨b, off, none⟩ ∧ W.cell? ⟨b, off + k, none⟩ = some (bv (l.getD k 0)) ∧ l.getD k 0 < 256
theorem BytesA.mono {W W' : World} {a : Option Addr} {l : List Nat} (h : BytesA W a l) (hb : Below W.heap.size W W') : BytesA W' a l := by
  intro k hk
  obtain ⟨b, off, e, h1, h2⟩ := h k hk
  exact ⟨b, off, e, keep h1 hb, h2⟩
theorem top_bit (r : Nat) (hr : r < 1099511627776) : r.testBit 39 = decide (r / 549755813888 = 1) := by
  rw [Nat.testBit_eq_decide_div_mod_eq]
  have : r / 2 ^ 39 % 2 = r / 549755813888 := by
    have : (2 : Nat) ^ 39 = 549755813888 := by decide
    rw [this]; omega
  rw [this]
theorem step_bits (r b : Nat) (hr : r < 1099511627776) (hb : b ≤ 1) : step r b = if (r / 549755813888) ^^^ b = 1 then (2 * r % 1099511627776) ^^^ pol else 2 * r % 1099511627776 := by
  unfold step dbl
  rw [top_bit r hr]
  rcases (by omega : r / 549755813888 = 0 ∨ r / 549755813888 = 1) with h | h <;> rcases (by omega : b = 0 ∨ b = 1) with k | k <;> rw [h, k] <;> simp [Nat.xor_assoc]
theorem and_mask (x : Nat) (hx : x < 18446744073709551616) : bits .and .u64 (x : Int) 1099511627775 = ((x % 1099511627776 : Nat) : Int) := by
  have := u64_and_nat x 1099511627775 hx (by decide)
  rw [show x &&& 1099511627775 = x % 1099511627776 from Nat.and_two_pow_sub_one_eq_mod x 40] at this
  exact this
set_option maxHeartbeats 400000 in
theorem step_any (r b : Nat) (w : World) (hr : r < 1099511627776) (hb : b ≤ 1) : Calls Tryd.prog 41 #[.int .u64 r, .int .u64 b] w fun e w' => e = .returned (.int .u64 (step r b)) ∧ w = w' := by
  have h1 : bits .xor .u64 (bits .and .u64 ((r : Int) / 549755813888) 1) b = (((r / 549755813888) ^^^ b : Nat) : Int) := by
    have e : (r : Int) / 549755813888 = ((r / 549755813888 : Nat) : Int) := by omega
    have k := u64_and_nat (r / 549755813888) 1 (by omega) (by decide)
    rw [nat_mask1, show r / 549755813888 % 2 = r / 549755813888 by omega] at k
    have e2 : ((1 : Nat) : Int) = 1 := rfl
    rw [e2] at k
    rw [e, k]
    exact u64_xor_nat _ _ (by omega) (by omega)
  have h2 : bits .and .u64 ((r : Int) * 2) 1099511627775 = ((2 * r % 1099511627776 : Nat) : Int) := by
    have e : (r : Int) * 2 = ((2 * r : Nat) : Int) := by omega
    rw [e]
    exact and_mask _ (by omega)
  have hs := step_bits r b hr hb
  obtain ⟨N, hN⟩ : ∃ N, 2 * r % 1099511627776 = N := ⟨_, rfl⟩
  have hN2 : N < 1099511627776 := by omega
  rw [hN] at h2 hs
  have h3 : bits .xor .u64 (N : Int) 75628553 = ((N ^^^ pol : Nat) : Int) := u64_xor_nat N 75628553 (by omega) (by decide)
  obtain ⟨F, hF⟩ : ∃ F, (r / 549755813888) ^^^ b = F := ⟨_, rfl⟩
  rw [hF] at h1 hs
  have HS := Lib.hid hs
  clear hN hF hs
  by_cases hf : F = 1
  · subst hf
    rw [if_pos rfl] at HS
    go_enter Tryd.func41, Tryd.ntmps41
    go_wp2
    go_ret
    exact ⟨by rw [HS.out]; rfl, rfl⟩
  · have hf' : ((F : Int) == 1) = false := beq_eq_false_iff_ne.2 (by omega)
    have hs := HS.out
    rw [if_neg hf] at hs
    have HS := Lib.hid hs
    clear hs hf
    go_enter Tryd.func41, Tryd.ntmps41
    go_wp2
    go_ret
    exact ⟨by rw [HS.out]; rfl, rfl⟩
set_option maxRecDepth 100000 in
set_option maxHeartbeats 2000000 in
theorem crcref_any (a : Option Addr) (cap : Nat) (l : List Nat) (w : World) (hp : BytesA w a l) (hm : l.length ≤ 9223372036854775807) :
    Calls Tryd.prog 17 #[.slice a l.length cap] w fun e w' => e = .returned (.int .i64 (crc l)) ∧ w = w' := by
  have HP := Lib.hid hp; clear hp
  go_enter Tryd.func17, Tryd.ntmps17
  go_wp2
  go_loopw [3, 4, 5] (fun ur ui uk wr => ∃ (i r : Nat), i ≤ l.length ∧ ui = .int .i64 i ∧ ur = .int .u64 r ∧ r < 1099511627776 ∧ Hid (run 1099511627775 (l.take i) = r) ∧ w = wr) (fun _ ui _ _ => l.length - (intOf ui).toNat)
  case atStart => exact ⟨0, 1099511627775, by omega, rfl, rfl, by decide, Lib.hid rfl, rfl⟩
  case round =>
    obtain ⟨i, r, hi, rfl, rfl, hr, hrun, rfl⟩ := hrel
    by_cases hlt : i < l.length
    · obtain ⟨b, off, rfl, q1, q2⟩ := HP.out i hlt
      have ht := run_take 1099511627775 l i hlt
      rw [hrun.out] at ht
      obtain ⟨c, hc⟩ : ∃ c, l.getD i 0 = c := ⟨_, rfl⟩
      rw [hc] at q1 q2 ht
      unfold bv at q1
      have HT := Lib.hid ht
      clear hc ht hrun
      go_wp2
      go_loopw [3, 5] (fun ur uk wr => ∃ (k s : Nat), k ≤ 8 ∧ uk = .int .i64 k ∧ ur = .int .u64 s ∧ s < 1099511627776 ∧ Hid (stK r c k = s) ∧ w = wr) (fun _ uk _ => 8 - (intOf uk).toNat)
      case atStart => exact ⟨0, r, by omega, rfl, rfl, hr, Lib.hid rfl, rfl⟩
      case round =>
        obtain ⟨k, s, hk, rfl, rfl, hs, hst, rfl⟩ := hrel
        by_cases hk8 : k < 8
        · have hst2 : stK r c (k + 1) = step s (c / 2 ^ (7 - k) % 2) := by show step (stK r c k) _ = _; rw [hst.out]
          have HST := Lib.hid hst2
          clear hst hst2
          have hb1 : bits .and .u64 ((c : Int) / 2 ^ (7 - k)) 1 = ((c / 2 ^ (7 - k) % 2 : Nat) : Int) := by
            have e : (c : Int) / 2 ^ (7 - k) = ((c / 2 ^ (7 - k) : Nat) : Int) := by simp
            have le := Nat.div_le_self c (2 ^ (7 - k))
            have k0 := u64_and_nat (c / 2 ^ (7 - k)) 1 (by omega) (by decide)
            rw [nat_mask1] at k0
            rw [e]
            exact k0
          obtain ⟨x, hx⟩ : ∃ x, c / 2 ^ (7 - k) % 2 = x := ⟨_, rfl⟩
          have hx1 : x ≤ 1 := by omega
          rw [hx] at hb1 HST
          have SL := step_lt s x
          have ST := Lib.hid (step_any s x w hs hx1)
          obtain ⟨z, hz⟩ : ∃ z, step s x = z := ⟨_, rfl⟩
          rw [hz] at SL ST HST
          clear hx hz
          go_wp2_with fail
          refine ST.out.mono ?_
          rintro e w1 ⟨rfl, rfl⟩
          go_wp2
          go_roundw
          case rel => exact ⟨k + 1, z, by omega, by go_num, rfl, SL, HST, trivial⟩
          case measure => simp [intOf]; omega
        · obtain rfl : k = 8 := by omega
          have HST := Lib.hid (HT.out.trans hst.out)
          go_wp2
          go_roundw
          case rel => exact ⟨i + 1, s, by omega, by go_num, rfl, hs, HST, trivial⟩
          case measure => simp [intOf]; omega
    · obtain rfl : i = l.length := by omega
      have hrn := hrun.out
      rw [List.take_length] at hrn
      have HR := Lib.hid hrn
      have hx : bits .xor .u64 (r : Int) 1099511627775 = ((r ^^^ 1099511627775 : Nat) : Int) := u64_xor_nat r 1099511627775 (by omega) (by decide)
      have hlt2 : r ^^^ 1099511627775 < 1099511627776 := Nat.xor_lt_two_pow (n := 40) hr (by decide)
      obtain ⟨X, hX⟩ : ∃ X, r ^^^ 1099511627775 = X := ⟨_, rfl⟩
      rw [hX] at hx hlt2
      have HX := Lib.hid hX
      clear hX hrn hrun
      go_wp2
      go_ret
      exact ⟨by unfold crc; rw [HR.out, HX.out]; rfl, rfl⟩
end Go.Proofs.YtjeipkoomefekaaDoor
