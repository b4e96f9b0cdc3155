/- Contracts: Accounts, place, find, Total, SameAccounts. -/
import Derived.Test.YtjmegfejnocegaaK
namespace Go.Proofs.Ytjmegfejnocegaa
set_option linter.unusedVariables false
set_option linter.unusedSimpArgs false
open Go.RowKit
theorem okA_split {p x1 x2 x3 : Int} : okA p (x1, x2, x3) ↔ p < x1 ∧ (1 ≤ x2 ∧ x2 ≤ 1048576) ∧ (0 ≤ x3 ∧ x3 ≤ 1099511627776) := by unfold okA; simp only; omega
theorem find_any (a : Option Addr) (cap : Nat) (l : List Ac) (x : Int) (w : World) (hp : AcA w a l) (hok : OkA l) :
    Calls Try.prog 40 #[.slice a l.length cap, .int .i64 x] w fun e w' => e = .returned (.tuple #[.int .i64 (posA l x : Int), .bool (hasA l x)]) ∧ Below w.heap.size w w' := by
  have C := Lib.hid (search_any a cap l x w hp hok)
  clear hp hok
  go_enter Try.func40, Try.ntmps40
  go_wp2_with fail
  refine C.out.mono ?_
  rintro e w1 ⟨rfl, hb⟩
  go_wp2
  refine bodyPost_ret (by simp [results, Try.results40, go_sem]; try rfl) rfl ?_
  exact ⟨rfl, hb⟩
set_option maxHeartbeats 400000 in
theorem place_any (a : Option Addr) (cap : Nat) (l : List Ac) (x : Int) (w : World) (hp : AcA w a l) (hok : OkA l) :
    Calls Try.prog 43 #[.slice a l.length cap, .int .i64 x] w fun e w' => e = .returned (.int .i64 (if hasA l x = true then (posA l x : Int) else -1)) ∧ Below w.heap.size w w' := by
  have HP := Lib.hid hp; have HK := Lib.hid hok
  have hm := hok.2
  obtain ⟨N, hN⟩ : ∃ N, l.length = N := ⟨_, rfl⟩
  have HE := Lib.hid hN
  rw [hN] at hm ⊢
  obtain ⟨V, hV⟩ : ∃ V : Int, (if hasA l x = true then (posA l x : Int) else -1) = V := ⟨_, rfl⟩
  have HV := Lib.hid hV
  rw [hV]
  clear hp hok hN hV
  go_enter Try.func43, Try.ntmps43
  go_wp2
  go_loopw [5] (fun u5 wr => ∃ k : Nat, k ≤ N ∧ u5 = .int .i64 k ∧ Hid (∀ j, j < k → (l.getD j (0, 0, 0)).1 ≠ x) ∧ Hid (Below w.heap.size w wr)) (fun u5 _ => N - (intOf u5).toNat)
  case atStart => exact ⟨0, by omega, rfl, Lib.hid (fun j hj => absurd hj (by omega)), Lib.hid (Below.refl _ _)⟩
  case round =>
    obtain ⟨k, hk, rfl, hs, hbe⟩ := hrel
    by_cases hlt : k < N
    · obtain ⟨b, off, rfl, q0, q1, q2⟩ := AcA.at_ (HP.out.mono hbe.out) (k := k) (by rw [HE.out]; exact hlt)
      by_cases heq : (l.getD k (0, 0, 0)).1 = x
      · have HR := Lib.hid (show (k : Int) = V by
          obtain ⟨h1, h2⟩ := HK.out.only (by rw [HE.out]; exact hlt) heq
          rw [← HV.out, if_pos h2, ← h1])
        rw [heq] at q0
        have d0 : (x == x) = true := by simp
        clear heq hs
        go_wp2
        go_ret
        exact ⟨ret_int HR.out, hbe.out⟩
      · have HS := Lib.hid (show ∀ j, j < k + 1 → (l.getD j (0, 0, 0)).1 ≠ x from fun j hj => by
          rcases Nat.lt_or_ge j k with h | h
          · exact hs.out j h
          · rw [show j = k by omega]; exact heq)
        obtain ⟨y, hy⟩ : ∃ y, (l.getD k (0, 0, 0)).1 = y := ⟨_, rfl⟩
        rw [hy] at q0 heq
        have d0 : (y == x) = false := beq_eq_false_iff_ne.2 heq
        clear heq hs hy
        go_wp2
        go_roundw
        case rel => exact ⟨k + 1, by omega, by go_num, HS, hbe⟩
        case measure => simp [intOf]; omega
    · have HR := Lib.hid (show (-1 : Int) = V by
        rw [← HV.out, if_neg]
        intro h
        obtain ⟨h1, h2⟩ := (hasA_iff l x).1 h
        exact hs.out _ (by rw [HE.out] at h1; omega) h2)
      clear hs
      go_wp2
      go_ret
      exact ⟨ret_int HR.out, hbe.out⟩
set_option maxHeartbeats 400000 in
theorem accounts_any (a : Option Addr) (cap : Nat) (l : List Ac) (w : World) (hp : AcA w a l) (hm : l.length ≤ 9223372036854775807) :
    Calls Try.prog 20 #[.slice a l.length cap] w fun e w' => e = .returned (.bool (vA l)) ∧ Below w.heap.size w w' := by
  obtain ⟨N, hN⟩ : ∃ N, l.length = N := ⟨_, rfl⟩
  have HE := Lib.hid hN; have HP := Lib.hid hp
  rw [hN] at hm ⊢
  clear hp hN
  go_enter Try.func20, Try.ntmps20
  go_wp2
  go_loopw [3, 5, 8] (fun u3 _ u8 wr => ∃ (k : Nat) (p : Int), k ≤ N ∧ u8 = .int .i64 k ∧ u3 = .int .i64 p ∧ Hid (prevT l k = p) ∧ Hid (∀ j, j < k → okA (prevT l j) (l.getD j (0, 0, 0))) ∧ Hid (Below w.heap.size w wr)) (fun _ _ u8 _ => N - (intOf u8).toNat)
  case atStart => exact ⟨0, 0, by omega, rfl, rfl, Lib.hid rfl, Lib.hid (fun j hj => absurd hj (by omega)), Lib.hid (Below.refl _ _)⟩
  case round =>
    obtain ⟨k, p, hk, rfl, rfl, hpr, hs, hbe⟩ := hrel
    by_cases hlt : k < N
    · obtain ⟨b, off, rfl, q0, q1, q2⟩ := AcA.at_ (HP.out.mono hbe.out) (k := k) (by rw [HE.out]; exact hlt)
      have NO := Lib.hid (fun h => vA_no (l := l) (k := k) (by rw [HE.out]; exact hlt) h)
      have YES := Lib.hid (show okA (prevT l k) (l.getD k (0, 0, 0)) → ∀ j, j < k + 1 → okA (prevT l j) (l.getD j (0, 0, 0)) from fun h1 j hj => by
        rcases Nat.lt_or_ge j k with h | h
        · exact hs.out j h
        · rw [show j = k by omega]; exact h1)
      have HN := Lib.hid (show prevT l (k + 1) = (l.getD k (0, 0, 0)).1 from rfl)
      obtain ⟨x, hx⟩ : ∃ x, l.getD k (0, 0, 0) = x := ⟨_, rfl⟩
      rw [hx] at q0 q1 q2 NO YES HN
      rw [hpr.out] at NO YES
      obtain ⟨x1, x2, x3⟩ := x
      simp only at q0 q1 q2 HN
      clear hx hs hpr
      have CW := Lib.hid (fun W => isWeight_any x2 W)
      have CV := Lib.hid (fun W => isVolume_any x3 W)
      by_cases p0 : p < x1
      · have d0 : decide (x1 ≤ p) = false := decide_eq_false (by omega)
        by_cases pw : 1 ≤ x2 ∧ x2 ≤ 1048576
        · rw [decide_eq_true pw] at CW
          by_cases pv : 0 ≤ x3 ∧ x3 ≤ 1099511627776
          · rw [decide_eq_true pv] at CV
            have Y := Lib.hid (YES.out (okA_split.2 ⟨p0, pw, pv⟩))
            clear pw pv
            go_wp2_with fail
            refine (CW.out _).mono ?_
            rintro e w1 ⟨rfl, rfl⟩
            go_wp2_with fail
            refine (CV.out _).mono ?_
            rintro e w1 ⟨rfl, rfl⟩
            go_wp2
            go_roundw
            case rel => exact ⟨k + 1, x1, by omega, by go_num, rfl, HN, Y, Lib.hid (hbe.out.alloc hbe.out.size _)⟩
            case measure => simp [intOf]; omega
          · rw [decide_eq_false pv] at CV
            have Y := Lib.hid (NO.out (fun q => pv (okA_split.1 q).2.2))
            clear pw pv
            go_wp2_with fail
            refine (CW.out _).mono ?_
            rintro e w1 ⟨rfl, rfl⟩
            go_wp2_with fail
            refine (CV.out _).mono ?_
            rintro e w1 ⟨rfl, rfl⟩
            go_wp2
            go_ret
            exact ⟨ret_bool Y.out.symm, hbe.out.alloc hbe.out.size _⟩
        · rw [decide_eq_false pw] at CW
          have Y := Lib.hid (NO.out (fun q => pw (okA_split.1 q).2.1))
          clear pw
          go_wp2_with fail
          refine (CW.out _).mono ?_
          rintro e w1 ⟨rfl, rfl⟩
          go_wp2
          go_ret
          exact ⟨ret_bool Y.out.symm, hbe.out.alloc hbe.out.size _⟩
      · have d0 : decide (x1 ≤ p) = true := decide_eq_true (by omega)
        have Y := Lib.hid (NO.out (fun q => p0 (okA_split.1 q).1))
        clear p0
        go_wp2
        go_ret
        exact ⟨ret_bool Y.out.symm, hbe.out.alloc hbe.out.size _⟩
    · have HF := Lib.hid (vA_end (l := l) (fun j hj => hs.out j (by rw [HE.out] at hj; omega)))
      clear hs
      go_wp2
      go_ret
      exact ⟨ret_bool (by rw [HF.out, HE.out]; try rfl), hbe.out⟩
set_option maxRecDepth 100000 in
set_option maxHeartbeats 400000 in
theorem accountsref_any (a : Option Addr) (cap : Nat) (l : List Ac) (w : World) (hp : AcA w a l) (hm : l.length ≤ 9223372036854775807) :
    Calls Try.prog 21 #[.slice a l.length cap] w fun e w' => e = .returned (.bool (vA l)) ∧ Below w.heap.size w w' := by
  obtain ⟨N, hN⟩ : ∃ N, l.length = N := ⟨_, rfl⟩
  have HE := Lib.hid hN; have HP := Lib.hid hp
  rw [hN] at hm ⊢
  clear hp hN
  go_enter Try.func21, Try.ntmps21
  go_wp2
  go_loopw [3, 4] (fun u3 u4 wr => ∃ (k : Nat) (p : Int), k ≤ N ∧ u4 = .int .i64 k ∧ u3 = .int .i64 p ∧ Hid (prevT l k = p) ∧ Hid (∀ j, j < k → okA (prevT l j) (l.getD j (0, 0, 0))) ∧ Hid (Below w.heap.size w wr)) (fun _ u4 _ => N - (intOf u4).toNat)
  case atStart => exact ⟨0, 0, by omega, rfl, rfl, Lib.hid rfl, Lib.hid (fun j hj => absurd hj (by omega)), Lib.hid (Below.refl _ _)⟩
  case round =>
    obtain ⟨k, p, hk, rfl, rfl, hpr, hs, hbe⟩ := hrel
    by_cases hlt : k < N
    · obtain ⟨b, off, rfl, q0, q1, q2⟩ := AcA.at_ (HP.out.mono hbe.out) (k := k) (by rw [HE.out]; exact hlt)
      have NO := Lib.hid (fun h => vA_no (l := l) (k := k) (by rw [HE.out]; exact hlt) h)
      have YES := Lib.hid (show okA (prevT l k) (l.getD k (0, 0, 0)) → ∀ j, j < k + 1 → okA (prevT l j) (l.getD j (0, 0, 0)) from fun h1 j hj => by
        rcases Nat.lt_or_ge j k with h | h
        · exact hs.out j h
        · rw [show j = k by omega]; exact h1)
      have HN := Lib.hid (show prevT l (k + 1) = (l.getD k (0, 0, 0)).1 from rfl)
      obtain ⟨x, hx⟩ : ∃ x, l.getD k (0, 0, 0) = x := ⟨_, rfl⟩
      rw [hx] at q0 q1 q2 NO YES HN
      rw [hpr.out] at NO YES
      obtain ⟨x1, x2, x3⟩ := x
      simp only at q0 q1 q2 HN
      clear hx hs hpr
      by_cases pp : okA p (x1, x2, x3)
      · have Y := Lib.hid (YES.out pp)
        obtain ⟨p0, ⟨p1, p2⟩, p3, p4⟩ := okA_split.1 pp
        have d0 : decide (x1 ≤ p) = false := decide_eq_false (by omega)
        have d1 : decide (x2 < 1) = false := decide_eq_false (by omega)
        have d2 : decide (1048576 < x2) = false := decide_eq_false (by omega)
        have d3 : decide (x3 < 0) = false := decide_eq_false (by omega)
        have d4 : decide (1099511627776 < x3) = false := decide_eq_false (by omega)
        clear pp
        go_wp2
        go_roundw
        case rel => exact ⟨k + 1, x1, by omega, by go_num, rfl, HN, Y, hbe⟩
        case measure => simp [intOf]; omega
      · have Y := Lib.hid (NO.out pp)
        have P := Lib.hid pp
        clear pp
        by_cases p0 : x1 ≤ p
        · have d0 : decide (x1 ≤ p) = true := decide_eq_true p0
          go_wp2
          go_ret
          exact ⟨ret_bool Y.out.symm, hbe.out⟩
        have d0 : decide (x1 ≤ p) = false := decide_eq_false p0
        by_cases p1 : x2 < 1
        · have d1 : decide (x2 < 1) = true := decide_eq_true p1
          go_wp2
          go_ret
          exact ⟨ret_bool Y.out.symm, hbe.out⟩
        have d1 : decide (x2 < 1) = false := decide_eq_false p1
        by_cases p2 : 1048576 < x2
        · have d2 : decide (1048576 < x2) = true := decide_eq_true p2
          go_wp2
          go_ret
          exact ⟨ret_bool Y.out.symm, hbe.out⟩
        have d2 : decide (1048576 < x2) = false := decide_eq_false p2
        by_cases p3 : x3 < 0
        · have d3 : decide (x3 < 0) = true := decide_eq_true p3
          go_wp2
          go_ret
          exact ⟨ret_bool Y.out.symm, hbe.out⟩
        have d3 : decide (x3 < 0) = false := decide_eq_false p3
        have p4 : 1099511627776 < x3 := by
          rcases Int.lt_or_le 1099511627776 x3 with h | h
          · exact h
          · exact absurd (okA_split.2 ⟨by omega, ⟨by omega, by omega⟩, by omega, h⟩) P.out
        have d4 : decide (1099511627776 < x3) = true := decide_eq_true p4
        go_wp2
        go_ret
        exact ⟨ret_bool Y.out.symm, hbe.out⟩
    · have HF := Lib.hid (vA_end (l := l) (fun j hj => hs.out j (by rw [HE.out] at hj; omega)))
      clear hs
      go_wp2
      go_ret
      exact ⟨ret_bool (by rw [HF.out, HE.out]; try rfl), hbe.out⟩


set_option maxHeartbeats 400000 in
theorem total_any (a : Option Addr) (cap : Nat) (l : List Ac) (w : World) (hp : AcA w a l) (hok : OkA l) :
    Calls Try.prog 27 #[.slice a l.length cap] w fun e w' => e = .returned (.int .i64 (used l)) ∧ Below w.heap.size w w' := by
  have hm := hok.2
  obtain ⟨N, hN⟩ : ∃ N, l.length = N := ⟨_, rfl⟩
  have HE := Lib.hid hN; have HP := Lib.hid hp; have HK := Lib.hid hok
  rw [hN] at hm ⊢
  clear hp hN hok
  go_enter Try.func27, Try.ntmps27
  go_wp2
  go_loopw [3, 5, 8] (fun u3 _ u8 wr => ∃ (k : Nat) (s : Int), k ≤ N ∧ u8 = .int .i64 k ∧ u3 = .int .i64 s ∧ 0 ≤ s ∧ s ≤ 1099511627776 * k ∧ Hid (used (l.take k) = s) ∧ Hid (Below w.heap.size w wr)) (fun _ _ u8 _ => N - (intOf u8).toNat)
  case atStart => exact ⟨0, 0, by omega, rfl, rfl, by omega, by omega, Lib.hid rfl, Lib.hid (Below.refl _ _)⟩
  case round =>
    obtain ⟨k, s, hk, rfl, rfl, s0, s1, hs, hbe⟩ := hrel
    by_cases hlt : k < N
    · obtain ⟨b, off, rfl, q0, q1, q2⟩ := AcA.at_ (HP.out.mono hbe.out) (k := k) (by rw [HE.out]; exact hlt)
      obtain ⟨-, -, o3, o4⟩ := HK.out.w (j := k) (by rw [HE.out]; exact hlt)
      have ht := used_take l k (by rw [HE.out]; exact hlt)
      rw [hs.out] at ht
      obtain ⟨x, hx⟩ : ∃ x, l.getD k (0, 0, 0) = x := ⟨_, rfl⟩
      rw [hx] at q0 q1 q2 o3 o4 ht
      obtain ⟨x1, x2, x3⟩ := x
      simp only at q0 q1 q2 o3 o4 ht
      have HT := Lib.hid ht
      clear hx hs ht
      go_wp2
      go_roundw
      case rel => exact ⟨k + 1, s + x3, by omega, by go_num, rfl, by omega, by omega, HT, Lib.hid (hbe.out.alloc hbe.out.size _)⟩
      case measure => simp [intOf]; omega
    · have hf' := hs.out
      rw [List.take_of_length_le (by rw [HE.out]; omega)] at hf'
      have HF := Lib.hid hf'
      clear hf'
      go_wp2
      go_ret
      exact ⟨by rw [HF.out]; rfl, hbe.out⟩
set_option maxHeartbeats 400000 in
theorem totalref_any (a : Option Addr) (cap : Nat) (l : List Ac) (w : World) (hp : AcA w a l) (hok : OkA l) :
    Calls Try.prog 28 #[.slice a l.length cap] w fun e w' => e = .returned (.int .i64 (used l)) ∧ Below w.heap.size w w' := by
  have hm := hok.2
  obtain ⟨N, hN⟩ : ∃ N, l.length = N := ⟨_, rfl⟩
  have HE := Lib.hid hN; have HP := Lib.hid hp; have HK := Lib.hid hok
  rw [hN] at hm ⊢
  clear hp hN hok
  go_enter Try.func28, Try.ntmps28
  go_wp2
  go_loopw [3, 4] (fun u3 u4 wr => ∃ (k : Nat) (s : Int), k ≤ N ∧ u4 = .int .i64 k ∧ u3 = .int .i64 s ∧ 0 ≤ s ∧ s ≤ 1099511627776 * k ∧ Hid (used (l.take k) = s) ∧ Hid (Below w.heap.size w wr)) (fun _ u4 _ => N - (intOf u4).toNat)
  case atStart => exact ⟨0, 0, by omega, rfl, rfl, by omega, by omega, Lib.hid rfl, Lib.hid (Below.refl _ _)⟩
  case round =>
    obtain ⟨k, s, hk, rfl, rfl, s0, s1, hs, hbe⟩ := hrel
    by_cases hlt : k < N
    · obtain ⟨b, off, rfl, q0, q1, q2⟩ := AcA.at_ (HP.out.mono hbe.out) (k := k) (by rw [HE.out]; exact hlt)
      obtain ⟨-, -, o3, o4⟩ := HK.out.w (j := k) (by rw [HE.out]; exact hlt)
      have ht := used_take l k (by rw [HE.out]; exact hlt)
      rw [hs.out] at ht
      obtain ⟨x, hx⟩ : ∃ x, l.getD k (0, 0, 0) = x := ⟨_, rfl⟩
      rw [hx] at q0 q1 q2 o3 o4 ht
      obtain ⟨x1, x2, x3⟩ := x
      simp only at q0 q1 q2 o3 o4 ht
      have HT := Lib.hid ht
      clear hx hs ht
      go_wp2
      go_roundw
      case rel => exact ⟨k + 1, s + x3, by omega, by go_num, rfl, by omega, by omega, HT, hbe⟩
      case measure => simp [intOf]; omega
    · have hf' := hs.out
      rw [List.take_of_length_le (by rw [HE.out]; omega)] at hf'
      have HF := Lib.hid hf'
      clear hf'
      go_wp2
      go_ret
      exact ⟨by rw [HF.out]; rfl, hbe.out⟩
set_option maxHeartbeats 400000 in
theorem sameacc_any (a1 a2 : Option Addr) (c1 c2 : Nat) (l : List Ac) (w : World) (hp1 : AcA w a1 l) (hp2 : AcA w a2 l) (hm : l.length ≤ 1000000) :
    Calls Try.prog 26 #[.slice a1 l.length c1, .slice a2 l.length c2] w fun e w' => e = .returned (.bool true) ∧ Below w.heap.size w w' := by
  have HP := Lib.hid hp1
  have HQ := Lib.hid hp2
  obtain ⟨n, hn⟩ : ∃ n, l.length = n := ⟨_, rfl⟩
  have HE := Lib.hid hn
  rw [hn] at hm ⊢
  have t1 : ((n : Int) != n) = false := by simp
  clear hp1 hp2 hn
  go_enter Try.func26, Try.ntmps26
  go_wp2
  go_loopw [5] (fun u5 wr => ∃ k : Nat, k ≤ n ∧ u5 = .int .i64 k ∧ Hid (Below w.heap.size w wr)) (fun u5 _ => n - (intOf u5).toNat)
  case atStart => exact ⟨0, by omega, rfl, Lib.hid (Below.refl _ _)⟩
  case round =>
    obtain ⟨k, hk, rfl, BB⟩ := hrel
    by_cases hlt : k < n
    · obtain ⟨b1, f1, rfl, q0, q1, q2⟩ := AcA.at_ (HP.out.mono BB.out) (k := k) (by rw [HE.out]; exact hlt)
      obtain ⟨b2, f2, rfl, p0, p1, p2⟩ := AcA.at_ (HQ.out.mono BB.out) (k := k) (by rw [HE.out]; exact hlt)
      obtain ⟨x, hx⟩ : ∃ x, l.getD k (0, 0, 0) = x := ⟨_, rfl⟩
      rw [hx] at q0 q1 q2 p0 p1 p2
      obtain ⟨x1, x2, x3⟩ := x
      simp only at q0 q1 q2 p0 p1 p2
      have t2 : (x1 != x1) = false := by simp
      have t3 : (x2 != x2) = false := by simp
      have t4 : (x3 != x3) = false := by simp
      clear hx
      go_wp2
      go_quiet (fail)
      go_wp2
      go_roundw
      case rel => exact ⟨k + 1, by omega, by go_num, Lib.hid (below_dn BB.out)⟩
      case measure => simp [intOf]; omega
    · go_wp2
      go_ret
      exact ⟨rfl, BB.out⟩
end Go.Proofs.Ytjmegfejnocegaa
