/- Contracts of the functions of wire: integers are read. -/
import Derived.Test.YtlihndekeaefcaaC
namespace Go.Proofs.Ytlihndekeaefcaa
set_option linter.unusedVariables false
set_option linter.unusedSimpArgs false
open Go.RowKit
/-- What GetInt answers. -/
def G (l : List Nat) : Int × Nat × Nat := getI 11 10 l
def GV (l : List Nat) : Value := .tuple #[.int .i64 (G l).1, .int .i64 ((G l).2.1 : Nat), .int .i64 ((G l).2.2 : Nat)]
theorem G_long {l : List Nat} (h : 10 ≤ lead l) : G l = (0, 0, 11) := by unfold G getI; rw [if_pos h]
theorem G_short {l : List Nat} (h : lead l < 10) (h2 : lead l = l.length) : G l = (0, 0, 10) := by unfold G getI; rw [if_neg (by omega), if_pos h2]
theorem G_odd {l : List Nat} (h : lead l < 10) (h2 : lead l < l.length) (h3 : (lead l = 9 ∧ 1 < l.getD (lead l) 0) ∨ (0 < lead l ∧ l.getD (lead l) 0 = 0)) : G l = (0, 0, 11) := by
  unfold G getI; rw [if_neg (by omega), if_neg (by omega), if_pos h3]
theorem G_ok {l : List Nat} (h : lead l < 10) (h2 : lead l < l.length) (h3 : ¬ ((lead l = 9 ∧ 1 < l.getD (lead l) 0) ∨ (0 < lead l ∧ l.getD (lead l) 0 = 0))) : G l = (unfoldZ (val (l.take (lead l + 1))), lead l + 1, 0) := by
  unfold G getI; rw [if_neg (by omega), if_neg (by omega), if_neg h3]
theorem lead_all {l : List Nat} (h : ∀ j, j < l.length → 128 ≤ l.getD j 0) : lead l = l.length := Nat.le_antisymm (lead_le l) (lead_ge l _ h)
theorem or_join (z x k : Nat) (hz : z < 2 ^ (7 * k)) (h : z + x * 2 ^ (7 * k) < 18446744073709551616) : bits .or .u64 (z : Int) (IntKind.u64.wrap ((x : Int) * 2 ^ (7 * k))) = ((z + x * 2 ^ (7 * k) : Nat) : Int) := by
  have e : (x : Int) * 2 ^ (7 * k) = ((x * 2 ^ (7 * k) : Nat) : Int) := by rw [Int.natCast_mul, Int.natCast_pow]; rfl
  rw [e, IntKind.wrap_u64]
  have e2 : ((x * 2 ^ (7 * k) : Nat) : Int) % 18446744073709551616 = ((x * 2 ^ (7 * k) : Nat) : Int) := by omega
  rw [e2, u64_or_nat _ _ (by omega) (by omega), Nat.or_comm, nat_join (7 * k) _ _ (by rw [Nat.mul_mod_left]) hz, Nat.add_comm]
theorem take_snoc {l : List Nat} {k x : Nat} (h : k < l.length) (hx : l.getD k 0 = x) : l.take (k + 1) = l.take k ++ [x] := by
  rw [List.take_succ_eq_append_getElem h]
  simp [List.getD_eq_getElem?_getD, List.getElem?_eq_getElem h] at hx
  rw [hx]
theorem or_lt (z : Nat) (u : Int) : ∃ y : Nat, bits .or .u64 (z : Int) (IntKind.u64.wrap u) = (y : Int) ∧ y < 18446744073709551616 := by
  refine ⟨((BitVec.ofInt 64 (z : Int) ||| BitVec.ofInt 64 (IntKind.u64.wrap u)).toNat : Nat), ?_, BitVec.isLt _⟩
  show IntKind.u64.wrap ((BitVec.ofInt 64 (z : Int) ||| BitVec.ofInt 64 (IntKind.u64.wrap u)).toNat : Int) = _
  rw [IntKind.wrap_u64]
  have := BitVec.isLt (BitVec.ofInt 64 (z : Int) ||| BitVec.ofInt 64 (IntKind.u64.wrap u))
  omega
theorem or_step (l : List Nat) (k x z : Nat) (hz : z < 18446744073709551616) (hv : k ≤ 9 → z = val (l.take k)) (hk : k < 10) (h1 : 128 ≤ x) (h2 : x < 256) (hl : k < l.length) (hx : l.getD k 0 = x) :
    ∃ y : Nat, bits .or .u64 (z : Int) (IntKind.u64.wrap (((x : Int) - 128) * 2 ^ (7 * k))) = (y : Int) ∧ y < 18446744073709551616 ∧ (k + 1 ≤ 9 → y = val (l.take (k + 1))) := by
  by_cases h9 : k = 9
  · obtain ⟨y, e1, e2⟩ := or_lt z (((x : Int) - 128) * 2 ^ (7 * k))
    exact ⟨y, e1, e2, fun h => absurd h (by omega)⟩
  · have e := take_snoc hl hx
    have hlen : (l.take k).length = k := by rw [List.length_take]; omega
    have hvl := val_lt (l.take k)
    have hv2 := val_lt (l.take (k + 1))
    rw [hlen] at hvl
    rw [e, val_snoc, List.length_append, hlen, List.length_singleton] at hv2
    have : (2 : Nat) ^ (7 * (k + 1)) ≤ 2 ^ 63 := Nat.pow_le_pow_right (by omega) (by omega)
    have e63 : (2 : Nat) ^ 63 = 9223372036854775808 := by decide
    rw [e63] at this
    rw [← hv (by omega), show x % 128 = x - 128 by omega] at hv2
    rw [← hv (by omega)] at hvl
    refine ⟨z + (x - 128) * 2 ^ (7 * k), ?_, by omega, fun _ => by rw [e, val_snoc, hlen, ← hv (by omega), show x % 128 = x - 128 by omega]⟩
    rw [show (x : Int) - 128 = ((x - 128 : Nat) : Int) by omega]
    exact or_join z (x - 128) k hvl (by omega)
theorem or_last (l : List Nat) (k x z : Nat) (hv : z = val (l.take k)) (hk : k < 9) (h2 : x < 128) (hl : k < l.length) (hx : l.getD k 0 = x) :
    ∃ y : Nat, bits .or .u64 (z : Int) (IntKind.u64.wrap ((x : Int) * 2 ^ (7 * k))) = (y : Int) ∧ y < 18446744073709551616 ∧ val (l.take (k + 1)) = y := by
  have e := take_snoc hl hx
  have hlen : (l.take k).length = k := by rw [List.length_take]; omega
  have hvl := val_lt (l.take k)
  have hv2 := val_lt (l.take (k + 1))
  rw [hlen, ← hv] at hvl
  rw [e, val_snoc, List.length_append, hlen, List.length_singleton, ← hv, show x % 128 = x by omega] at hv2
  have : (2 : Nat) ^ (7 * (k + 1)) ≤ 2 ^ 63 := Nat.pow_le_pow_right (by omega) (by omega)
  have e63 : (2 : Nat) ^ 63 = 9223372036854775808 := by decide
  rw [e63] at this
  exact ⟨z + x * 2 ^ (7 * k), or_join z x k hvl (by omega), by omega, by rw [e, val_snoc, hlen, ← hv, show x % 128 = x by omega]⟩
theorem or_nine (l : List Nat) (z : Nat) (hv : z = val (l.take 9)) (hl : 9 < l.length) (hx : l.getD 9 0 = 1) :
    ∃ y : Nat, bits .or .u64 (z : Int) 9223372036854775808 = (y : Int) ∧ y < 18446744073709551616 ∧ val (l.take (9 + 1)) = y := by
  have e := take_snoc hl hx
  have hlen : (l.take 9).length = 9 := by rw [List.length_take]; omega
  have hvl := val_lt (l.take 9)
  rw [hlen, ← hv] at hvl
  have h := or_join z 1 9 hvl (by have e63 : (2 : Nat) ^ (7 * 9) = 9223372036854775808 := by decide
                                  rw [e63] at hvl ⊢; omega)
  refine ⟨z + 1 * 2 ^ (7 * 9), ?_, ?_, by rw [e, val_snoc, hlen, ← hv]⟩
  · rw [← h]; rfl
  · have e63 : (2 : Nat) ^ (7 * 9) = 9223372036854775808 := by decide
    rw [e63] at hvl ⊢; omega
set_option maxRecDepth 100000 in
set_option maxHeartbeats 1000000 in
theorem getInt_any (a : Option Addr) (cap : Nat) (l : List Nat) (w : World) (hp : BytesA w a l) (hm : l.length ≤ 1000000000) :
    Calls Try.prog 24 #[.slice a l.length cap] w fun e w' => e = .returned (GV l) ∧ w = w' := by
  have HP := Lib.hid hp; clear hp
  go_enter Try.func24, Try.ntmps24
  go_wp2
  go_step3
  go_wp2
  go_step3
  go_wp2
  go_loop [5, 6] (fun u5 u6 => ∃ (k : Nat) (z : Nat), k ≤ l.length ∧ k ≤ 10 ∧ u6 = .int .i64 k ∧ u5 = .int .u64 (z : Nat) ∧ Hid (z < 18446744073709551616) ∧ Hid (k ≤ 9 → z = val (l.take k)) ∧ Hid (∀ j, j < k → 128 ≤ l.getD j 0)) (fun _ u6 => (10 - intOf u6).toNat)
  case atStart => exact ⟨0, 0, by omega, by omega, rfl, rfl, Lib.hid (by decide), Lib.hid (fun _ => rfl), Lib.hid (fun j hj => absurd hj (by omega))⟩
  case round =>
    obtain ⟨k, z, hk1, hk2, rfl, rfl, hz, hv, hlead⟩ := hrel
    by_cases h10 : k = 10
    · subst h10
      have HG := Lib.hid (G_long (lead_ge l 10 hlead.out))
      go_wp2
      go_ret3
      exact ⟨by unfold GV; rw [HG.out]; rfl, rfl⟩
    · by_cases hlen : k = l.length
      · have hL := lead_all (by rw [← hlen]; exact hlead.out)
        have HG := Lib.hid (G_short (by omega) hL)
        subst hlen
        clear hL
        go_wp2
        go_ret3
        exact ⟨by unfold GV; rw [HG.out]; rfl, rfl⟩
      · obtain ⟨b, off, rfl, q1, q2⟩ := HP.out k (by omega)
        obtain ⟨x, hx⟩ : ∃ x, l.getD k 0 = x := ⟨_, rfl⟩
        rw [hx] at q1 q2
        unfold bv at q1
        by_cases h128 : 128 ≤ x
        · obtain ⟨y, hy1, hy2, hy3⟩ := or_step l k x z hz.out hv.out (by omega) h128 q2 (by omega) hx
          have HX := Lib.hid hx; clear hx
          have HY := Lib.hid hy3; have HYl := Lib.hid hy2; clear hy3 hy2
          go_wp2
          go_round
          case rel => exact ⟨k + 1, y, by omega, by omega, by go_num, rfl, HYl, HY, Lib.hid (fun j hj => by rcases Nat.lt_or_ge j k with h | h; exact hlead.out j h; rw [show j = k by omega, HX.out]; exact h128)⟩
          case measure => simp [intOf]; omega
        · have hl : lead l = k := lead_is l k hlead.out (by rw [hx]; omega) (by omega)
          by_cases hbad : (k = 9 ∧ 1 < x) ∨ (0 < k ∧ x = 0)
          · have HG := Lib.hid (G_odd (l := l) (by omega) (by omega) (by rw [hl, hx]; exact hbad))
            have HX := Lib.hid hx; clear hx hl
            rcases hbad with ⟨rfl, hb⟩ | ⟨hb, rfl⟩
            · go_wp2
              go_ret3
              exact ⟨by unfold GV; rw [HG.out]; rfl, rfl⟩
            · by_cases h9 : k = 9
              · subst h9
                go_wp2
                go_ret3
                exact ⟨by unfold GV; rw [HG.out]; rfl, rfl⟩
              · have h9' : ((k : Int) == 9) = false := by simp; omega
                go_wp2
                go_ret3
                exact ⟨by unfold GV; rw [HG.out]; rfl, rfl⟩
          · have hG := G_ok (l := l) (by omega) (by omega) (by rw [hl, hx]; exact hbad)
            rw [hl] at hG
            have HG := Lib.hid hG; clear hG hl
            have HX := Lib.hid hx
            by_cases h9 : k = 9
            · subst h9
              obtain rfl : x = 1 := by omega
              obtain ⟨y, hy1, hy2, hy3⟩ := or_nine l z (hv.out (by omega)) (by omega) hx
              rw [hy3] at HG
              have HYl := Lib.hid hy2
              clear hx hy2 hy3
              go_wp2_with fail
              refine (unfold_any y _ HYl.out).mono ?_
              rintro e w1 ⟨rfl, rfl⟩
              go_wp2
              rw [Exit.noGoto_ret]
              go_ret3
              exact ⟨by unfold GV; rw [HG.out]; rfl, rfl⟩
            · obtain ⟨y, hy1, hy2, hy3⟩ := or_last l k x z (hv.out (by omega)) (by omega) (by omega) (by omega) hx
              rw [hy3] at HG
              have HYl := Lib.hid hy2
              have h9' : ((k : Int) == 9) = false := by simp; omega
              clear hx hy2 hy3
              by_cases hx0 : x = 0
              · obtain rfl : k = 0 := by omega
                subst hx0
                rw [Nat.add_zero] at q1
                have hy1' : bits .or .u64 (z : Int) 0 = (y : Int) := by rw [← hy1]; rfl
                clear hy1
                go_wp2_with fail
                refine (unfold_any y _ HYl.out).mono ?_
                rintro e w1 ⟨rfl, rfl⟩
                go_wp2
                rw [Exit.noGoto_ret]
                go_ret3
                exact ⟨by unfold GV; rw [HG.out]; rfl, rfl⟩
              · have hx0' : ((x : Int) == 0) = false := by simp; omega
                go_wp2_with fail
                refine (unfold_any y _ HYl.out).mono ?_
                rintro e w1 ⟨rfl, rfl⟩
                go_wp2
                rw [Exit.noGoto_ret]
                go_ret3
                exact ⟨by unfold GV; rw [HG.out]; rfl, rfl⟩
theorem val_drop (l : List Nat) (j : Nat) (h : j < l.length) : val (l.drop j) = l.getD j 0 % 128 + 128 * val (l.drop (j + 1)) := by
  rw [List.drop_eq_getElem_cons h]
  simp only [val]
  congr 1
  simp [List.getD_eq_getElem?_getD, List.getElem?_eq_getElem h]
theorem val_drop_le (l : List Nat) : ∀ j, val (l.drop j) ≤ val l
  | 0 => by simp
  | j + 1 => by
    by_cases h : j < l.length
    · have := val_drop_le l j
      rw [val_drop l j h] at this
      omega
    · rw [List.drop_eq_nil_of_le (by omega)]; simp [val]
theorem ok_lt {l : List Nat} {k : Nat} (hk : k < 10) (hl : k < l.length) (hx : l.getD k 0 < 128) (h : ¬ ((k = 9 ∧ 1 < l.getD k 0) ∨ (0 < k ∧ l.getD k 0 = 0))) : val (l.take (k + 1)) < 18446744073709551616 := by
  have e := take_snoc hl rfl
  have hlen : (l.take k).length = k := by rw [List.length_take]; omega
  have hvl := val_lt (l.take k)
  rw [hlen] at hvl
  rw [e, val_snoc, hlen]
  by_cases h9 : k = 9
  · subst h9
    have e63 : (2 : Nat) ^ (7 * 9) = 9223372036854775808 := by decide
    rw [e63] at hvl ⊢
    have : l.getD 9 0 % 128 ≤ 1 := by omega
    have : l.getD 9 0 % 128 * 9223372036854775808 ≤ 1 * 9223372036854775808 := Nat.mul_le_mul_right _ this
    omega
  · have hv2 := val_lt (l.take (k + 1))
    have : (2 : Nat) ^ (7 * (k + 1)) ≤ 2 ^ 63 := Nat.pow_le_pow_right (by omega) (by omega)
    have e63 : (2 : Nat) ^ 63 = 9223372036854775808 := by decide
    rw [e63] at this
    rw [e, val_snoc, List.length_append, hlen, List.length_singleton] at hv2
    omega
theorem horner (l : List Nat) (k j z : Nat) (hv : val (l.take (k + 1)) < 18446744073709551616) (hk : k < l.length) (hj : j ≤ k) (hz : z = val ((l.take (k + 1)).drop ((j : Int) + 1).toNat)) :
    IntKind.u64.wrap ((z : Int) * 128) = (z : Int) * 128 ∧ IntKind.u64.wrap ((z : Int) * 128 + (l.getD j 0 : Nat) % 128) = (z : Int) * 128 + (l.getD j 0 : Nat) % 128 ∧ z * 128 + l.getD j 0 % 128 = val ((l.take (k + 1)).drop ((j : Int) - 1 + 1).toNat) := by
  have e1 : ((j : Int) + 1).toNat = j + 1 := by omega
  have e2 : ((j : Int) - 1 + 1).toNat = j := by omega
  rw [e1] at hz
  rw [e2]
  have h := val_drop (l.take (k + 1)) j (by rw [List.length_take]; omega)
  rw [getD_take (by omega), ← hz] at h
  have h2 := val_drop_le (l.take (k + 1)) j
  rw [IntKind.wrap_u64, IntKind.wrap_u64]
  refine ⟨by omega, by omega, by omega⟩
set_option maxRecDepth 100000 in
set_option maxHeartbeats 4000000 in
theorem getIntref_any (a : Option Addr) (cap : Nat) (l : List Nat) (w : World) (hp : BytesA w a l) (hm : l.length ≤ 1000000000) :
    Calls Try.prog 25 #[.slice a l.length cap] w fun e w' => e = .returned (GV l) ∧ w = w' := by
  have HP := Lib.hid hp; clear hp
  go_enter Try.func25, Try.ntmps25
  go_wp2
  go_loop [5] (fun u5 => ∃ (k : Nat), k ≤ l.length ∧ k ≤ 10 ∧ u5 = .int .i64 k ∧ Hid (∀ j, j < k → 128 ≤ l.getD j 0)) (fun u5 => (10 - intOf u5).toNat)
  case atStart => exact ⟨0, by omega, by omega, rfl, Lib.hid (fun j hj => absurd hj (by omega))⟩
  case round =>
    obtain ⟨k, hk1, hk2, rfl, hlead⟩ := hrel
    by_cases h10 : k = 10
    · subst h10
      have HG := Lib.hid (G_long (lead_ge l 10 hlead.out))
      by_cases hlt : (10 : Int) < l.length
      all_goals
        go_wp2
        go_ret3
        exact ⟨by unfold GV; rw [HG.out]; rfl, rfl⟩
    · have h10b : ((k : Int) == 10) = false := by simp; omega
      have h10c : decide ((k : Int) < 10) = true := by simp; omega
      by_cases hlen : k = l.length
      · have hL := lead_all (by rw [← hlen]; exact hlead.out)
        have HG := Lib.hid (G_short (by omega) hL)
        subst hlen
        clear hL
        go_wp2
        go_ret3
        exact ⟨by unfold GV; rw [HG.out]; rfl, rfl⟩
      · have hlb : ((k : Int) == l.length) = false := by simp; omega
        have hlc : decide (k < l.length) = true := by simp; omega
        obtain ⟨b, off, rfl, q1, q2⟩ := HP.out k (by omega)
        obtain ⟨x, hx⟩ : ∃ x, l.getD k 0 = x := ⟨_, rfl⟩
        rw [hx] at q1 q2
        unfold bv at q1
        by_cases h128 : 128 ≤ x
        · have HX := Lib.hid hx; clear hx
          go_wp2
          go_round
          case rel => exact ⟨k + 1, by omega, by omega, by go_num, Lib.hid (fun j hj => by rcases Nat.lt_or_ge j k with h | h; exact hlead.out j h; rw [show j = k by omega, HX.out]; exact h128)⟩
          case measure => simp [intOf]; omega
        · have hl : lead l = k := lead_is l k hlead.out (by rw [hx]; omega) (by omega)
          by_cases hbad : (k = 9 ∧ 1 < x) ∨ (0 < k ∧ x = 0)
          · have HG := Lib.hid (G_odd (l := l) (by omega) (by omega) (by rw [hl, hx]; exact hbad))
            have HX := Lib.hid hx; clear hx hl
            rcases hbad with ⟨rfl, hb⟩ | ⟨hb, rfl⟩
            · go_wp2
              go_ret3
              exact ⟨by unfold GV; rw [HG.out]; rfl, rfl⟩
            · by_cases h9 : k = 9
              · subst h9
                go_wp2
                go_ret3
                exact ⟨by unfold GV; rw [HG.out]; rfl, rfl⟩
              · have h9' : ((k : Int) == 9) = false := by simp; omega
                go_wp2
                go_ret3
                exact ⟨by unfold GV; rw [HG.out]; rfl, rfl⟩
          · have hG := G_ok (l := l) (by omega) (by omega) (by rw [hl, hx]; exact hbad)
            rw [hl] at hG
            have HV := Lib.hid (ok_lt (l := l) (k := k) (by omega) (by omega) (by rw [hx]; omega) (by rw [hx]; exact hbad))
            have HG := Lib.hid hG; clear hG hl
            have HX := Lib.hid hx; clear hx
            have HB := Lib.hid hbad
            have hq : k = 9 ∨ ¬ k = 9 ∧ 0 < k ∨ ¬ k = 9 ∧ k = 0 := by omega
            have h128' : decide (128 ≤ (x : Int)) = false := by simp; omega
            rcases hq with h9 | ⟨h9, h0⟩ | ⟨h9, h0⟩
            · have d9 : ((k : Int) == 9) = true := by simp; omega
              have d1 : decide (1 < (x : Int)) = false := by have := HB.out; simp; omega
              have d0 : ((x : Int) == 0) = false := by have := HB.out; simp; omega
              have d0k : decide (0 < k) = true := by simp; omega
              clear hbad h9
              have LK := Lib.hid hlead
              clear hlead
              go_wp2
              go_loop [6, 7] (fun u6 u7 => ∃ (i : Int) (z : Nat), -1 ≤ i ∧ i ≤ k ∧ u7 = .int .i64 i ∧ u6 = .int .u64 (z : Nat) ∧ Hid (z = val ((l.take (k + 1)).drop (i + 1).toNat))) (fun _ u7 => (intOf u7 + 1).toNat)
              case atStart => exact ⟨k, 0, by omega, by omega, rfl, rfl, Lib.hid (by rw [List.drop_eq_nil_of_le (by rw [List.length_take]; omega)]; rfl)⟩
              case round =>
                obtain ⟨i, z, hi1, hi2, rfl, rfl, hz⟩ := hrel
                by_cases hi : 0 ≤ i
                · obtain ⟨j, rfl⟩ : ∃ j : Nat, i = j := ⟨i.toNat, by omega⟩
                  obtain ⟨b', off', he, q1', q2'⟩ := HP.out j (by omega)
                  simp only [Option.some.injEq, Addr.mk.injEq, and_true] at he
                  obtain ⟨rfl, rfl⟩ := he
                  obtain ⟨w1, w2, w3⟩ := horner l k j z HV.out (by omega) (by omega) hz.out
                  obtain ⟨y, hy⟩ : ∃ y, l.getD j 0 = y := ⟨_, rfl⟩
                  rw [hy] at q1' q2' w2 w3
                  unfold bv at q1'
                  have W3 := Lib.hid w3
                  have HYY := Lib.hid hy
                  clear w3 hy
                  go_wp2
                  go_round
                  case rel => exact ⟨(j : Int) - 1, z * 128 + y % 128, by omega, by omega, rfl, by go_num, W3⟩
                  case measure => first | (simp [intOf]; done) | (simp [intOf]; omega)
                · obtain rfl : i = -1 := by omega
                  have hz' := hz.out
                  simp only [show ((-1 : Int) + 1).toNat = 0 from rfl, List.drop_zero] at hz'
                  have hzl := HV.out
                  rw [← hz'] at hzl
                  have HGG := HG.out
                  rw [← hz'] at HGG
                  have HG2 := Lib.hid HGG
                  have HZL := Lib.hid hzl
                  clear HGG hzl hz'
                  by_cases ho : z % 2 = 1
                  · have ho' : (((z : Int) % 2) == 1) = true := by simp; omega
                    have hu := Lib.hid (show unfoldZ z = -1 - ((z / 2 : Nat) : Int) by unfold unfoldZ; rw [if_pos ho])
                    have hw2 := Lib.hid (show z / 2 < 9223372036854775808 by have := HZL.out; omega)
                    have e1 : IntKind.u64.wrap ((z : Int) / 2) = (z : Int) / 2 := by have := HZL.out; rw [IntKind.wrap_u64]; omega
                    have e2 : wrap64 ((z : Int) / 2) = (z : Int) / 2 := by have := HZL.out; unfold wrap64; omega
                    have e3 : wrap64 (-1 - (z : Int) / 2) = -1 - (z : Int) / 2 := by have := HZL.out; unfold wrap64; omega
                    clear ho
                    go_wp2
                    go_ret3
                    exact ⟨by unfold GV; rw [HG2.out, hu.out]; first | done | rfl, rfl⟩
                  · have ho' : (((z : Int) % 2) == 1) = false := by simp; omega
                    have hu := Lib.hid (show unfoldZ z = ((z / 2 : Nat) : Int) by unfold unfoldZ; rw [if_neg ho])
                    have e1 : IntKind.u64.wrap ((z : Int) / 2) = (z : Int) / 2 := by have := HZL.out; rw [IntKind.wrap_u64]; omega
                    have e2 : wrap64 ((z : Int) / 2) = (z : Int) / 2 := by have := HZL.out; unfold wrap64; omega
                    have e3 : wrap64 (-1 - (z : Int) / 2) = -1 - (z : Int) / 2 := by have := HZL.out; unfold wrap64; omega
                    clear ho
                    go_wp2
                    go_ret3
                    exact ⟨by unfold GV; rw [HG2.out, hu.out]; first | done | rfl, rfl⟩
            · have d9 : ((k : Int) == 9) = false := by simp; omega
              have d0 : ((x : Int) == 0) = false := by have := HB.out; simp; omega
              have d0k : decide (0 < k) = true := by simp; omega
              clear hbad h9
              have LK := Lib.hid hlead
              clear hlead
              go_wp2
              go_loop [6, 7] (fun u6 u7 => ∃ (i : Int) (z : Nat), -1 ≤ i ∧ i ≤ k ∧ u7 = .int .i64 i ∧ u6 = .int .u64 (z : Nat) ∧ Hid (z = val ((l.take (k + 1)).drop (i + 1).toNat))) (fun _ u7 => (intOf u7 + 1).toNat)
              case atStart => exact ⟨k, 0, by omega, by omega, rfl, rfl, Lib.hid (by rw [List.drop_eq_nil_of_le (by rw [List.length_take]; omega)]; rfl)⟩
              case round =>
                obtain ⟨i, z, hi1, hi2, rfl, rfl, hz⟩ := hrel
                by_cases hi : 0 ≤ i
                · obtain ⟨j, rfl⟩ : ∃ j : Nat, i = j := ⟨i.toNat, by omega⟩
                  obtain ⟨b', off', he, q1', q2'⟩ := HP.out j (by omega)
                  simp only [Option.some.injEq, Addr.mk.injEq, and_true] at he
                  obtain ⟨rfl, rfl⟩ := he
                  obtain ⟨w1, w2, w3⟩ := horner l k j z HV.out (by omega) (by omega) hz.out
                  obtain ⟨y, hy⟩ : ∃ y, l.getD j 0 = y := ⟨_, rfl⟩
                  rw [hy] at q1' q2' w2 w3
                  unfold bv at q1'
                  have W3 := Lib.hid w3
                  have HYY := Lib.hid hy
                  clear w3 hy
                  go_wp2
                  go_round
                  case rel => exact ⟨(j : Int) - 1, z * 128 + y % 128, by omega, by omega, rfl, by go_num, W3⟩
                  case measure => first | (simp [intOf]; done) | (simp [intOf]; omega)
                · obtain rfl : i = -1 := by omega
                  have hz' := hz.out
                  simp only [show ((-1 : Int) + 1).toNat = 0 from rfl, List.drop_zero] at hz'
                  have hzl := HV.out
                  rw [← hz'] at hzl
                  have HGG := HG.out
                  rw [← hz'] at HGG
                  have HG2 := Lib.hid HGG
                  have HZL := Lib.hid hzl
                  clear HGG hzl hz'
                  by_cases ho : z % 2 = 1
                  · have ho' : (((z : Int) % 2) == 1) = true := by simp; omega
                    have hu := Lib.hid (show unfoldZ z = -1 - ((z / 2 : Nat) : Int) by unfold unfoldZ; rw [if_pos ho])
                    have hw2 := Lib.hid (show z / 2 < 9223372036854775808 by have := HZL.out; omega)
                    have e1 : IntKind.u64.wrap ((z : Int) / 2) = (z : Int) / 2 := by have := HZL.out; rw [IntKind.wrap_u64]; omega
                    have e2 : wrap64 ((z : Int) / 2) = (z : Int) / 2 := by have := HZL.out; unfold wrap64; omega
                    have e3 : wrap64 (-1 - (z : Int) / 2) = -1 - (z : Int) / 2 := by have := HZL.out; unfold wrap64; omega
                    clear ho
                    go_wp2
                    go_ret3
                    exact ⟨by unfold GV; rw [HG2.out, hu.out]; first | done | rfl, rfl⟩
                  · have ho' : (((z : Int) % 2) == 1) = false := by simp; omega
                    have hu := Lib.hid (show unfoldZ z = ((z / 2 : Nat) : Int) by unfold unfoldZ; rw [if_neg ho])
                    have e1 : IntKind.u64.wrap ((z : Int) / 2) = (z : Int) / 2 := by have := HZL.out; rw [IntKind.wrap_u64]; omega
                    have e2 : wrap64 ((z : Int) / 2) = (z : Int) / 2 := by have := HZL.out; unfold wrap64; omega
                    have e3 : wrap64 (-1 - (z : Int) / 2) = -1 - (z : Int) / 2 := by have := HZL.out; unfold wrap64; omega
                    clear ho
                    go_wp2
                    go_ret3
                    exact ⟨by unfold GV; rw [HG2.out, hu.out]; first | done | rfl, rfl⟩
            · have d9 : ((k : Int) == 9) = false := by simp; omega
              have d0k : decide (0 < k) = false := by simp; omega
              have H0 := Lib.hid h0
              clear hbad h9 h0
              have LK := Lib.hid hlead
              clear hlead
              go_wp2
              go_loop [6, 7] (fun u6 u7 => ∃ (i : Int) (z : Nat), -1 ≤ i ∧ i ≤ k ∧ u7 = .int .i64 i ∧ u6 = .int .u64 (z : Nat) ∧ Hid (z = val ((l.take (k + 1)).drop (i + 1).toNat))) (fun _ u7 => (intOf u7 + 1).toNat)
              case atStart => exact ⟨k, 0, by omega, by omega, rfl, rfl, Lib.hid (by rw [List.drop_eq_nil_of_le (by rw [List.length_take]; omega)]; rfl)⟩
              case round =>
                obtain ⟨i, z, hi1, hi2, rfl, rfl, hz⟩ := hrel
                by_cases hi : 0 ≤ i
                · obtain ⟨j, rfl⟩ : ∃ j : Nat, i = j := ⟨i.toNat, by omega⟩
                  obtain ⟨b', off', he, q1', q2'⟩ := HP.out j (by omega)
                  simp only [Option.some.injEq, Addr.mk.injEq, and_true] at he
                  obtain ⟨rfl, rfl⟩ := he
                  obtain ⟨w1, w2, w3⟩ := horner l k j z HV.out (by omega) (by omega) hz.out
                  obtain ⟨y, hy⟩ : ∃ y, l.getD j 0 = y := ⟨_, rfl⟩
                  rw [hy] at q1' q2' w2 w3
                  unfold bv at q1'
                  have W3 := Lib.hid w3
                  have HYY := Lib.hid hy
                  clear w3 hy
                  go_wp2
                  go_round
                  case rel => exact ⟨(j : Int) - 1, z * 128 + y % 128, by omega, by omega, rfl, by go_num, W3⟩
                  case measure => first | (simp [intOf]; done) | (simp [intOf]; omega)
                · obtain rfl : i = -1 := by omega
                  have hz' := hz.out
                  simp only [show ((-1 : Int) + 1).toNat = 0 from rfl, List.drop_zero] at hz'
                  have hzl := HV.out
                  rw [← hz'] at hzl
                  have HGG := HG.out
                  rw [← hz'] at HGG
                  have HG2 := Lib.hid HGG
                  have HZL := Lib.hid hzl
                  clear HGG hzl hz'
                  by_cases ho : z % 2 = 1
                  · have ho' : (((z : Int) % 2) == 1) = true := by simp; omega
                    have hu := Lib.hid (show unfoldZ z = -1 - ((z / 2 : Nat) : Int) by unfold unfoldZ; rw [if_pos ho])
                    have hw2 := Lib.hid (show z / 2 < 9223372036854775808 by have := HZL.out; omega)
                    have e1 : IntKind.u64.wrap ((z : Int) / 2) = (z : Int) / 2 := by have := HZL.out; rw [IntKind.wrap_u64]; omega
                    have e2 : wrap64 ((z : Int) / 2) = (z : Int) / 2 := by have := HZL.out; unfold wrap64; omega
                    have e3 : wrap64 (-1 - (z : Int) / 2) = -1 - (z : Int) / 2 := by have := HZL.out; unfold wrap64; omega
                    clear ho
                    go_wp2
                    go_ret3
                    exact ⟨by unfold GV; rw [HG2.out, hu.out]; first | done | rfl, rfl⟩
                  · have ho' : (((z : Int) % 2) == 1) = false := by simp; omega
                    have hu := Lib.hid (show unfoldZ z = ((z / 2 : Nat) : Int) by unfold unfoldZ; rw [if_neg ho])
                    have e1 : IntKind.u64.wrap ((z : Int) / 2) = (z : Int) / 2 := by have := HZL.out; rw [IntKind.wrap_u64]; omega
                    have e2 : wrap64 ((z : Int) / 2) = (z : Int) / 2 := by have := HZL.out; unfold wrap64; omega
                    have e3 : wrap64 (-1 - (z : Int) / 2) = -1 - (z : Int) / 2 := by have := HZL.out; unfold wrap64; omega
                    clear ho
                    go_wp2
                    go_ret3
                    exact ⟨by unfold GV; rw [HG2.out, hu.out]; first | done | rfl, rfl⟩
end Go.Proofs.Ytlihndekeaefcaa
