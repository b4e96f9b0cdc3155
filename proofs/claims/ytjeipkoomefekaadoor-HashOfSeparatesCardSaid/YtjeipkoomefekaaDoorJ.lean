/- Contracts of the functions of hash: checks. -/
import Derived.Test.YtjeipkoomefekaaDoorI
namespace Go.Proofs.YtjeipkoomefekaaDoor
set_option linter.unusedVariables false
set_option linter.unusedSimpArgs false
open Go.RowKit
theorem tab_lt (n : Nat) : tab n < 1099511627776 := by
  unfold tab
  show dblN 4 _ < _
  rw [show (4 : Nat) = 3 + 1 from rfl, dblN_succ]
  exact dbl_lt _
set_option maxRecDepth 100000 in
set_option maxHeartbeats 2000000 in
theorem shift_bytes (r0 : Nat) (a : Option Addr) (cap : Nat) (l : List Nat) (w : World) (hr0 : r0 < 1099511627776) (hp : BytesA w a l) (hm : l.length ≤ 9223372036854775807) (hla : LaidC w) :
    Calls Tryd.prog 40 #[.int .u64 r0, .slice a l.length cap] w fun e w' => e = .returned (.int .u64 (run r0 l)) ∧ w = w' := by
  obtain ⟨L, hL⟩ : ∃ L, l.length = L := ⟨_, rfl⟩
  rw [hL] at hm
  have HP := Lib.hid hp; have HLE := Lib.hid hL
  rw [hL]
  clear hp hL
  have LA := Lib.hid hla
  clear hla
  go_enter Tryd.func40, Tryd.ntmps40
  go_wp2
  go_loopw [0, 9] (fun ur ui wr => ∃ (i r : Nat), i ≤ L ∧ ui = .int .i64 i ∧ ur = .int .u64 r ∧ r < 1099511627776 ∧ Hid (run r0 (l.take i) = r) ∧ w = wr) (fun _ ui _ => L - (intOf ui).toNat)
  case atStart => exact ⟨0, r0, by omega, rfl, rfl, hr0, Lib.hid rfl, rfl⟩
  case round =>
    obtain ⟨i, r, hi, rfl, rfl, hr, hrun, rfl⟩ := hrel
    by_cases hlt : i < L
    · have ht := run_take r0 l i (by rw [HLE.out]; exact hlt)
      rw [hrun.out] at ht
      obtain ⟨b, off, rfl, q1, q2⟩ := HP.out i (by rw [HLE.out]; exact hlt)
      obtain ⟨c, hc⟩ : ∃ c, l.getD i 0 = c := ⟨_, rfl⟩
      rw [hc] at q1 q2 ht
      unfold bv at q1
      have ht2 : nib (nib r (c / 16)) (c % 16) = run r0 (l.take (i + 1)) := by rw [nib_two r c hr q2, ht]
      have hr1 := nib_lt r (c / 16) hr (by omega)
      have k1 : bits .and .u64 ((r : Int) * 16) 1099511627775 = ((16 * r % 1099511627776 : Nat) : Int) := by
        have e : (r : Int) * 16 = ((16 * r : Nat) : Int) := by omega
        rw [e]; exact and_mask _ (by omega)
      have kJ : (r / 68719476736) ^^^ (c / 16) < 16 := Nat.xor_lt_two_pow (n := 4) (by omega) (by omega)
      have k2 : bits .xor .u64 ((r : Int) / 68719476736) ((c : Int) / 16) = (((r / 68719476736) ^^^ (c / 16) : Nat) : Int) := by
        have e1 : (r : Int) / 68719476736 = ((r / 68719476736 : Nat) : Int) := by omega
        have e2 : (c : Int) / 16 = ((c / 16 : Nat) : Int) := by omega
        rw [e1, e2]; exact u64_xor_nat _ _ (by omega) (by omega)
      have k3 : bits .xor .u64 ((16 * r % 1099511627776 : Nat) : Int) ((tab ((r / 68719476736) ^^^ (c / 16)) : Nat) : Int) = ((nib r (c / 16) : Nat) : Int) :=
        u64_xor_nat _ _ (by omega) (by have := tab_lt ((r / 68719476736) ^^^ (c / 16)); omega)
      have d1 := LA.out.steps _ kJ
      obtain ⟨J, hJ⟩ : ∃ J, (r / 68719476736) ^^^ (c / 16) = J := ⟨_, rfl⟩
      obtain ⟨A, hA⟩ : ∃ A, 16 * r % 1099511627776 = A := ⟨_, rfl⟩
      obtain ⟨R, hR⟩ : ∃ R, nib r (c / 16) = R := ⟨_, rfl⟩
      rw [hJ] at k2 k3 d1 kJ; rw [hA] at k1 k3; rw [hR] at k3 hr1 ht2
      obtain ⟨T, hT⟩ : ∃ T, tab J = T := ⟨_, rfl⟩
      rw [hT] at k3 d1
      clear hJ hA hR hT
      have m1 : bits .and .u64 ((R : Int) * 16) 1099511627775 = ((16 * R % 1099511627776 : Nat) : Int) := by
        have e : (R : Int) * 16 = ((16 * R : Nat) : Int) := by omega
        rw [e]; exact and_mask _ (by omega)
      have m0 : bits .and .u64 (c : Int) 15 = ((c % 16 : Nat) : Int) := by
        have := u64_and_nat c 15 (by omega) (by decide)
        rw [show c &&& 15 = c % 16 from Nat.and_two_pow_sub_one_eq_mod c 4] at this
        exact this
      have mJ : (R / 68719476736) ^^^ (c % 16) < 16 := Nat.xor_lt_two_pow (n := 4) (by omega) (by omega)
      have m2 : bits .xor .u64 ((R : Int) / 68719476736) ((c % 16 : Nat) : Int) = (((R / 68719476736) ^^^ (c % 16) : Nat) : Int) := by
        have e1 : (R : Int) / 68719476736 = ((R / 68719476736 : Nat) : Int) := by omega
        rw [e1]; exact u64_xor_nat _ _ (by omega) (by omega)
      have m3 : bits .xor .u64 ((16 * R % 1099511627776 : Nat) : Int) ((tab ((R / 68719476736) ^^^ (c % 16)) : Nat) : Int) = ((nib R (c % 16) : Nat) : Int) :=
        u64_xor_nat _ _ (by omega) (by have := tab_lt ((R / 68719476736) ^^^ (c % 16)); omega)
      have hr2 := nib_lt R (c % 16) hr1 (by omega)
      have d2 := LA.out.steps _ mJ
      obtain ⟨J2, hJ2⟩ : ∃ J, (R / 68719476736) ^^^ (c % 16) = J := ⟨_, rfl⟩
      obtain ⟨A2, hA2⟩ : ∃ A, 16 * R % 1099511627776 = A := ⟨_, rfl⟩
      obtain ⟨R2, hR2⟩ : ∃ R', nib R (c % 16) = R' := ⟨_, rfl⟩
      rw [hJ2] at m2 m3 d2 mJ; rw [hA2] at m1 m3; rw [hR2] at m3 hr2 ht2
      obtain ⟨T2, hT2⟩ : ∃ T, tab J2 = T := ⟨_, rfl⟩
      rw [hT2] at m3 d2
      obtain ⟨C2, hC2⟩ : ∃ C, c % 16 = C := ⟨_, rfl⟩
      rw [hC2] at m0 m2
      have iJ : (J : Int) < 16 := by omega
      have pJ : (0 : Int) ≤ (J : Int) := by omega
      have iJ2 : (J2 : Int) < 16 := by omega
      have pJ2 : (0 : Int) ≤ (J2 : Int) := by omega
      have HT := Lib.hid ht2.symm
      clear hJ2 hA2 hR2 hT2 hC2 ht2 ht hrun kJ mJ hc
      go_wp2
      go_roundw
      case rel => exact ⟨i + 1, R2, by omega, by go_num, rfl, hr2, HT, trivial⟩
      case measure => simp [intOf]; omega
    · have hrn := hrun.out
      rw [List.take_of_length_le (by rw [HLE.out]; omega)] at hrn
      have HR := Lib.hid hrn
      clear hrn hrun
      go_wp2
      go_ret
      exact ⟨by rw [HR.out]; rfl, rfl⟩
set_option maxRecDepth 100000 in
set_option maxHeartbeats 2000000 in
theorem shift_string (r0 : Nat) (t0 : ByteArray) (l : List Nat) (w : World) (hr0 : r0 < 1099511627776) (hp : sb t0 = l) (hm : l.length ≤ 9223372036854775807) (hla : LaidC w) :
    Calls Tryd.prog 42 #[.int .u64 r0, .string t0] w fun e w' => e = .returned (.int .u64 (run r0 l)) ∧ w = w' := by
  have hz : t0.size = l.length := by rw [← hp, sb_len]
  have hcs : ∀ i (h : i < t0.size), (t0[i]'h).toNat = l.getD i 0 := fun i h => by
    rw [← hp]
    unfold sb
    rw [List.getD_eq_getElem?_getD, List.getElem?_map, List.getElem?_eq_getElem (by simpa using h)]
    rfl
  have hlt8 : ∀ i, l.getD i 0 < 256 := getD_lt (by decide) (by rw [← hp]; exact sb_lt t0)
  obtain ⟨L, hL⟩ : ∃ L, l.length = L := ⟨_, rfl⟩
  rw [hL] at hz hm
  have HCS := Lib.hid hcs; have HL8 := Lib.hid hlt8; have HLE := Lib.hid hL
  clear hp hcs hlt8 hL
  have LA := Lib.hid hla
  clear hla
  go_enter Tryd.func42, Tryd.ntmps42
  go_wp2
  go_loopw [0, 9] (fun ur ui wr => ∃ (i r : Nat), i ≤ L ∧ ui = .int .i64 i ∧ ur = .int .u64 r ∧ r < 1099511627776 ∧ Hid (run r0 (l.take i) = r) ∧ w = wr) (fun _ ui _ => L - (intOf ui).toNat)
  case atStart => exact ⟨0, r0, by omega, rfl, rfl, hr0, Lib.hid rfl, rfl⟩
  case round =>
    obtain ⟨i, r, hi, rfl, rfl, hr, hrun, rfl⟩ := hrel
    by_cases hlt : i < L
    · have ht := run_take r0 l i (by rw [HLE.out]; exact hlt)
      rw [hrun.out] at ht
      have hcx := HCS.out i (by omega)
      have q2 := HL8.out i
      obtain ⟨c, hc⟩ : ∃ c, l.getD i 0 = c := ⟨_, rfl⟩
      rw [hc] at q2 ht hcx
      have hti : i < t0.size := by omega
      have hcx2 : ((t0[i]'hti).toNat : Int) = (c : Int) := by rw [hcx]
      have ht2 : nib (nib r (c / 16)) (c % 16) = run r0 (l.take (i + 1)) := by rw [nib_two r c hr q2, ht]
      have hr1 := nib_lt r (c / 16) hr (by omega)
      have k1 : bits .and .u64 ((r : Int) * 16) 1099511627775 = ((16 * r % 1099511627776 : Nat) : Int) := by
        have e : (r : Int) * 16 = ((16 * r : Nat) : Int) := by omega
        rw [e]; exact and_mask _ (by omega)
      have kJ : (r / 68719476736) ^^^ (c / 16) < 16 := Nat.xor_lt_two_pow (n := 4) (by omega) (by omega)
      have k2 : bits .xor .u64 ((r : Int) / 68719476736) ((c : Int) / 16) = (((r / 68719476736) ^^^ (c / 16) : Nat) : Int) := by
        have e1 : (r : Int) / 68719476736 = ((r / 68719476736 : Nat) : Int) := by omega
        have e2 : (c : Int) / 16 = ((c / 16 : Nat) : Int) := by omega
        rw [e1, e2]; exact u64_xor_nat _ _ (by omega) (by omega)
      have k3 : bits .xor .u64 ((16 * r % 1099511627776 : Nat) : Int) ((tab ((r / 68719476736) ^^^ (c / 16)) : Nat) : Int) = ((nib r (c / 16) : Nat) : Int) :=
        u64_xor_nat _ _ (by omega) (by have := tab_lt ((r / 68719476736) ^^^ (c / 16)); omega)
      have d1 := LA.out.steps _ kJ
      obtain ⟨J, hJ⟩ : ∃ J, (r / 68719476736) ^^^ (c / 16) = J := ⟨_, rfl⟩
      obtain ⟨A, hA⟩ : ∃ A, 16 * r % 1099511627776 = A := ⟨_, rfl⟩
      obtain ⟨R, hR⟩ : ∃ R, nib r (c / 16) = R := ⟨_, rfl⟩
      rw [hJ] at k2 k3 d1 kJ; rw [hA] at k1 k3; rw [hR] at k3 hr1 ht2
      obtain ⟨T, hT⟩ : ∃ T, tab J = T := ⟨_, rfl⟩
      rw [hT] at k3 d1
      clear hJ hA hR hT
      have m1 : bits .and .u64 ((R : Int) * 16) 1099511627775 = ((16 * R % 1099511627776 : Nat) : Int) := by
        have e : (R : Int) * 16 = ((16 * R : Nat) : Int) := by omega
        rw [e]; exact and_mask _ (by omega)
      have m0 : bits .and .u64 (c : Int) 15 = ((c % 16 : Nat) : Int) := by
        have := u64_and_nat c 15 (by omega) (by decide)
        rw [show c &&& 15 = c % 16 from Nat.and_two_pow_sub_one_eq_mod c 4] at this
        exact this
      have mJ : (R / 68719476736) ^^^ (c % 16) < 16 := Nat.xor_lt_two_pow (n := 4) (by omega) (by omega)
      have m2 : bits .xor .u64 ((R : Int) / 68719476736) ((c % 16 : Nat) : Int) = (((R / 68719476736) ^^^ (c % 16) : Nat) : Int) := by
        have e1 : (R : Int) / 68719476736 = ((R / 68719476736 : Nat) : Int) := by omega
        rw [e1]; exact u64_xor_nat _ _ (by omega) (by omega)
      have m3 : bits .xor .u64 ((16 * R % 1099511627776 : Nat) : Int) ((tab ((R / 68719476736) ^^^ (c % 16)) : Nat) : Int) = ((nib R (c % 16) : Nat) : Int) :=
        u64_xor_nat _ _ (by omega) (by have := tab_lt ((R / 68719476736) ^^^ (c % 16)); omega)
      have hr2 := nib_lt R (c % 16) hr1 (by omega)
      have d2 := LA.out.steps _ mJ
      obtain ⟨J2, hJ2⟩ : ∃ J, (R / 68719476736) ^^^ (c % 16) = J := ⟨_, rfl⟩
      obtain ⟨A2, hA2⟩ : ∃ A, 16 * R % 1099511627776 = A := ⟨_, rfl⟩
      obtain ⟨R2, hR2⟩ : ∃ R', nib R (c % 16) = R' := ⟨_, rfl⟩
      rw [hJ2] at m2 m3 d2 mJ; rw [hA2] at m1 m3; rw [hR2] at m3 hr2 ht2
      obtain ⟨T2, hT2⟩ : ∃ T, tab J2 = T := ⟨_, rfl⟩
      rw [hT2] at m3 d2
      obtain ⟨C2, hC2⟩ : ∃ C, c % 16 = C := ⟨_, rfl⟩
      rw [hC2] at m0 m2
      have iJ : (J : Int) < 16 := by omega
      have pJ : (0 : Int) ≤ (J : Int) := by omega
      have iJ2 : (J2 : Int) < 16 := by omega
      have pJ2 : (0 : Int) ≤ (J2 : Int) := by omega
      have HT := Lib.hid ht2.symm
      clear hJ2 hA2 hR2 hT2 hC2 ht2 ht hrun kJ mJ hc hcx
      go_wp2
      go_roundw
      case rel => exact ⟨i + 1, R2, by omega, by go_num, rfl, hr2, HT, trivial⟩
      case measure => simp [intOf]; omega
    · have hrn := hrun.out
      rw [List.take_of_length_le (by rw [HLE.out]; omega)] at hrn
      have HR := Lib.hid hrn
      clear hrn hrun
      go_wp2
      go_ret
      exact ⟨by rw [HR.out]; rfl, rfl⟩
/-- A check's register as a value. -/
abbrev cv (r : Nat) : Value := .agg #[.int .u64 (r : Int)]
set_option maxHeartbeats 400000 in
theorem value_any (r : Nat) (w : World) (hr : r < 1099511627776) : Calls Tryd.prog 22 #[cv r] w fun e w' => e = .returned (.int .i64 ((r ^^^ 1099511627775 : Nat) : Int)) ∧ Below w.heap.size w w' := by
  have hx : bits .xor .u64 (r : Int) 1099511627775 = ((r ^^^ 1099511627775 : Nat) : Int) := u64_xor_nat r 1099511627775 (by omega) (by decide)
  have hlt2 : r ^^^ 1099511627775 < 1099511627776 := Nat.xor_lt_two_pow (n := 40) hr (by decide)
  obtain ⟨X, hX⟩ : ∃ X, r ^^^ 1099511627775 = X := ⟨_, rfl⟩
  rw [hX] at hx hlt2 ⊢
  clear hX
  go_enter Tryd.func22, Tryd.ntmps22
  go_wp2
  go_ret
  exact ⟨rfl, by (repeat' (first | (with_reducible exact Below.refl _ _) | (with_reducible assumption) | (with_reducible refine Below.alloc ?_ ?_ _) | (with_reducible refine Below.drew ?_) | (with_reducible refine below_dn ?_) | (with_reducible refine Below.setCell ?_ ?_ _) | (with_reducible exact Nat.le_refl _) | omega | (simp only [World.size_alloc, World.size_setCell, World.size_drew]; omega) | (simp; omega) | (simp; done)))⟩
set_option maxHeartbeats 400000 in
theorem crcbegin_any (w : World) : Calls Tryd.prog 19 #[] w fun e w' => e = .returned (cv 1099511627775) ∧ Below w.heap.size w w' := by
  go_enter Tryd.func19, Tryd.ntmps19
  go_wp2
  refine bodyPost_ret (by simp [results, Tryd.results19, go_sem]; try rfl) rfl ?_
  exact ⟨rfl, by (repeat' (first | (with_reducible exact Below.refl _ _) | (with_reducible assumption) | (with_reducible refine Below.alloc ?_ ?_ _) | (with_reducible refine Below.drew ?_) | (with_reducible refine below_dn ?_) | (with_reducible refine Below.setCell ?_ ?_ _) | (with_reducible exact Nat.le_refl _) | omega | (simp only [World.size_alloc, World.size_setCell, World.size_drew]; omega) | (simp; omega) | (simp; done)))⟩
set_option maxHeartbeats 400000 in
theorem crcadd_any (r : Nat) (t0 : ByteArray) (l : List Nat) (w : World) (hr : r < 1099511627776) (hp : sb t0 = l) (hm : l.length ≤ 9223372036854775807) (hla : LaidC w) :
    Calls Tryd.prog 20 #[cv r, .string t0] w fun e w' => e = .returned (cv (run r l)) ∧ Below w.heap.size w w' := by
  have LA := Lib.hid hla; have HP := Lib.hid hp
  clear hla hp
  go_enter Tryd.func20, Tryd.ntmps20
  go_wp2_with fail
  refine (shift_string r t0 l _ hr HP.out hm (LA.out.mono (by (repeat' (first | (with_reducible exact Below.refl _ _) | (with_reducible assumption) | (with_reducible refine Below.alloc ?_ ?_ _) | (with_reducible refine Below.drew ?_) | (with_reducible refine below_dn ?_) | (with_reducible refine Below.setCell ?_ ?_ _) | (with_reducible exact Nat.le_refl _) | omega | (simp only [World.size_alloc, World.size_setCell, World.size_drew]; omega) | (simp; omega) | (simp; done)))))).mono ?_
  rintro e w1 ⟨rfl, rfl⟩
  go_wp2
  refine bodyPost_ret (by simp [results, Tryd.results20, go_sem]; try rfl) rfl ?_
  exact ⟨rfl, by (repeat' (first | (with_reducible exact Below.refl _ _) | (with_reducible assumption) | (with_reducible refine Below.alloc ?_ ?_ _) | (with_reducible refine Below.drew ?_) | (with_reducible refine below_dn ?_) | (with_reducible refine Below.setCell ?_ ?_ _) | (with_reducible exact Nat.le_refl _) | omega | (simp only [World.size_alloc, World.size_setCell, World.size_drew]; omega) | (simp; omega) | (simp; done)))⟩
set_option maxHeartbeats 400000 in
theorem crc40_any (a : Option Addr) (cap : Nat) (l : List Nat) (w : World) (hp : BytesA w a l) (hm : l.length ≤ 9223372036854775807) (hla : LaidC w) :
    Calls Tryd.prog 16 #[.slice a l.length cap] w fun e w' => e = .returned (.int .i64 (crc l)) ∧ Below w.heap.size w w' := by
  have LA := Lib.hid hla; have HP := Lib.hid hp
  have C := Lib.hid (fun W : World => value_any (run 1099511627775 l) W (run_lt _ _ (by decide)))
  have D := Lib.hid (fun (W : World) (h1 : BytesA W a l) (h2 : LaidC W) => shift_bytes 1099511627775 a cap l W (by decide) h1 hm h2)
  have E := Lib.hid (show crc l = run 1099511627775 l ^^^ 1099511627775 from rfl)
  obtain ⟨R, hR⟩ : ∃ R, run 1099511627775 l = R := ⟨_, rfl⟩
  rw [hR] at C D E
  clear hla hp hR
  go_enter Tryd.func16, Tryd.ntmps16
  go_wp2_with fail
  refine (D.out _ HP.out LA.out).mono ?_
  rintro e w1 ⟨rfl, rfl⟩
  go_wp2_with fail
  refine (C.out _).mono ?_
  rintro e w2 ⟨rfl, hb⟩
  have HB := Lib.hid hb
  clear hb
  go_wp2
  go_ret
  exact ⟨by rw [E.out]; rfl, HB.out⟩
set_option maxHeartbeats 1000000 in
theorem multiply_any (a b : Nat) (w : World) (ha : a < 1099511627776) (hb : b < 1099511627776) : Calls Tryd.prog 44 #[.int .u64 a, .int .u64 b] w fun e w' => e = .returned (.int .u64 (mul a b)) ∧ w = w' := by
  go_enter Tryd.func44, Tryd.ntmps44
  go_wp2
  go_loopw [0, 1, 5] (fun ua ub ur wr => ∃ (x y r : Nat), ua = .int .u64 x ∧ ub = .int .u64 y ∧ ur = .int .u64 r ∧ x < 1099511627776 ∧ y < 1099511627776 ∧ r < 1099511627776 ∧ Hid (mul a b = r ^^^ mul x y) ∧ w = wr) (fun _ ub _ _ => (intOf ub).toNat)
  case atStart => exact ⟨a, b, 0, rfl, rfl, rfl, ha, hb, by decide, Lib.hid (by rw [Nat.zero_xor]), rfl⟩
  case round =>
    obtain ⟨x, y, r, rfl, rfl, rfl, hx, hy, hr, hm, rfl⟩ := hrel
    by_cases h0 : y = 0
    · have hm0 := hm.out
      rw [h0, mul_none, Nat.xor_zero] at hm0
      have HM := Lib.hid hm0
      have t0 : ((y : Int) == 0) = true := beq_iff_eq.2 (by omega)
      have t0' : ((y : Int) != 0) = false := by simp; omega
      clear hm hm0 h0
      go_wp2
      go_ret
      exact ⟨by rw [HM.out]; rfl, rfl⟩
    · have t0 : ((y : Int) == 0) = false := beq_eq_false_iff_ne.2 (by omega)
      have t0' : ((y : Int) != 0) = true := by simp; omega
      have hstep := hm.out
      rw [mul_step x y, ← Nat.xor_assoc] at hstep
      have k1 : bits .and .u64 (y : Int) 1 = ((y % 2 : Nat) : Int) := by
        have := u64_and_nat y 1 (by omega) (by decide)
        rw [nat_mask1] at this
        exact this
      have kx : bits .xor .u64 (r : Int) (x : Int) = ((r ^^^ x : Nat) : Int) := u64_xor_nat _ _ (by omega) (by omega)
      have rx : r ^^^ x < 1099511627776 := Nat.xor_lt_two_pow (n := 40) hr hx
      have kd : 2 * x ≤ 1099511627775 ∧ dbl x = 2 * x ∨ 1099511627775 < 2 * x ∧ dbl x = (2 * x % 1099511627776) ^^^ 75628553 := by
        by_cases h : x < 549755813888
        · exact Or.inl ⟨by omega, dbl_lo h⟩
        · refine Or.inr ⟨by omega, ?_⟩
          unfold dbl
          rw [top_bit x hx, show x / 549755813888 = 1 by omega]
          rfl
      have dl := dbl_lt x
      have km : bits .and .u64 ((x : Int) * 2) 1099511627775 = ((2 * x % 1099511627776 : Nat) : Int) := by
        have e : (x : Int) * 2 = ((2 * x : Nat) : Int) := by omega
        rw [e]; exact and_mask _ (by omega)
      have kp : bits .xor .u64 ((2 * x % 1099511627776 : Nat) : Int) 75628553 = (((2 * x % 1099511627776) ^^^ 75628553 : Nat) : Int) := u64_xor_nat _ 75628553 (by omega) (by decide)
      obtain ⟨M, hM⟩ : ∃ M, 2 * x % 1099511627776 = M := ⟨_, rfl⟩
      obtain ⟨D, hD⟩ : ∃ D, dbl x = D := ⟨_, rfl⟩
      rw [hM] at km kp kd; rw [hD] at kd dl hstep
      obtain ⟨B, hB⟩ : ∃ B, y % 2 = B := ⟨_, rfl⟩
      obtain ⟨Y, hY⟩ : ∃ Y, y / 2 = Y := ⟨_, rfl⟩
      have eY : (y : Int) / 2 = (Y : Int) := by omega
      have Yl : Y < y := by omega
      have Y40 : Y < 1099511627776 := by omega
      have B2 : B ≤ 1 := by omega
      rw [hB] at k1 hstep; rw [hY] at hstep
      obtain ⟨X, hX⟩ : ∃ X, r ^^^ x = X := ⟨_, rfl⟩
      rw [hX] at kx rx
      have KD := Lib.hid kd; have HS := Lib.hid hstep; have HXX := Lib.hid hX
      clear hM hD hB hY hX hm kd hstep h0
      by_cases hb1 : B = 1
      case' pos => have t1 : ((B : Int) == 1) = true := beq_iff_eq.2 (by omega); have hs := HS.out; rw [if_pos hb1, HXX.out] at hs; have HS2 := Lib.hid hs; clear hs
      case' neg => have t1 : ((B : Int) == 1) = false := beq_eq_false_iff_ne.2 (by omega); have hs := HS.out; rw [if_neg hb1, Nat.xor_zero] at hs; have HS2 := Lib.hid hs; clear hs
      all_goals
        clear hb1
        rcases KD.out with ⟨h1, h2⟩ | ⟨h1, h2⟩
        case' inl => have t2 : ¬ (1099511627775 : Int) < (x : Int) * 2 := (by omega); have h3 : (x : Int) * 2 = (D : Int) := (by omega)
        case' inr => have t2 : (1099511627775 : Int) < (x : Int) * 2 := (by omega); have h3 : bits .xor .u64 (M : Int) 75628553 = (D : Int) := by rw [kp, ← h2]
        all_goals
          clear h2 h1 KD kp
          go_wp2
          go_roundw
          case rel => exact ⟨D, Y, _, rfl, rfl, rfl, dl, Y40, by assumption, HS2, trivial⟩
          case measure => simp [intOf]; omega
end Go.Proofs.YtjeipkoomefekaaDoor
