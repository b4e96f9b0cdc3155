/- Law 5: nobody gets less with more. -/
import Derived.Test.YtjmegfejnocegaaP7
namespace Go.Proofs.Ytjmegfejnocegaa
set_option linter.unusedVariables false
set_option linter.unusedSimpArgs false
open Go.RowKit
set_option maxRecDepth 100000 in
set_option maxHeartbeats 1000000 in
theorem grows_out (n m : Int) (a : Option Addr) (cap : Nat) (l : List Sh) (w : World) (hp : ShA w a l) (hl : l.length ≤ 9223372036854775807) (h : ¬ (l.length ≤ 60 ∧ vS l = true ∧ (0 ≤ n ∧ n ≤ 1099511627776) ∧ (0 ≤ m ∧ m ≤ 1099511627776) ∧ n ≤ m)) :
    Calls Try.prog 5 #[.int .i64 n, .int .i64 m, .slice a l.length cap] w (Truly w) := by
  have CS := Lib.hid (fun W => sane W)
  have CU := Lib.hid (fun W (hb : Below w.heap.size w W) => validref_any a cap l W (hp.mono hb) hl)
  have CN := Lib.hid (fun W => capacity_any n W)
  have CM := Lib.hid (fun W => capacity_any m W)
  have H := Lib.hid h
  obtain ⟨N, hN⟩ : ∃ N, l.length = N := ⟨_, rfl⟩
  rw [hN] at hl CU H ⊢
  clear hp h hN
  by_cases c1 : 60 < N
  · go_enter Try.func5, Try.ntmps5
    go_wp2_with fail
    refine (CS.out _).mono ?_
    rintro e w1 ⟨rfl, hb⟩
    go_wp2
    go_ret
    exact ⟨rfl, hb⟩
  by_cases c2 : vS l = true
  case neg =>
    rw [show vS l = false by simpa using c2] at CU
    clear c2 CN CM H
    go_enter Try.func5, Try.ntmps5
    go_wp2_with fail
    refine (CU.out _ (Below.refl _ _)).mono ?_
    rintro e w1 ⟨rfl, hb⟩
    have B1 := Lib.hid hb
    clear hb
    go_wp2_with fail
    refine (CS.out _).mono ?_
    rintro e w2 ⟨rfl, hb⟩
    have B2 := Lib.hid (show Below w.heap.size w w2 from bt B1.out hb)
    clear hb
    go_wp2
    go_ret
    exact ⟨rfl, B2.out⟩
  rw [c2] at CU
  by_cases c3 : 0 ≤ n ∧ n ≤ 1099511627776
  case neg =>
    rw [decide_eq_false c3] at CN
    clear c2 c3 CM H
    go_enter Try.func5, Try.ntmps5
    go_wp2_with fail
    refine (CU.out _ (Below.refl _ _)).mono ?_
    rintro e w1 ⟨rfl, hb⟩
    have B1 := Lib.hid hb
    clear hb
    go_wp2_with fail
    refine (CN.out _).mono ?_
    rintro e w2 ⟨rfl, rfl⟩
    go_wp2_with fail
    refine (CS.out _).mono ?_
    rintro e w2 ⟨rfl, hb⟩
    have B2 := Lib.hid (show Below w.heap.size w w2 from bt B1.out hb)
    clear hb
    go_wp2
    go_ret
    exact ⟨rfl, B2.out⟩
  rw [decide_eq_true c3] at CN
  by_cases c4 : 0 ≤ m ∧ m ≤ 1099511627776
  case neg =>
    rw [decide_eq_false c4] at CM
    clear c2 c3 c4 H
    go_enter Try.func5, Try.ntmps5
    go_wp2_with fail
    refine (CU.out _ (Below.refl _ _)).mono ?_
    rintro e w1 ⟨rfl, hb⟩
    have B1 := Lib.hid hb
    clear hb
    go_wp2_with fail
    refine (CN.out _).mono ?_
    rintro e w2 ⟨rfl, rfl⟩
    go_wp2_with fail
    refine (CM.out _).mono ?_
    rintro e w2 ⟨rfl, rfl⟩
    go_wp2_with fail
    refine (CS.out _).mono ?_
    rintro e w2 ⟨rfl, hb⟩
    have B2 := Lib.hid (show Below w.heap.size w w2 from bt B1.out hb)
    clear hb
    go_wp2
    go_ret
    exact ⟨rfl, B2.out⟩
  rw [decide_eq_true c4] at CM
  have c5 : m < n := by
    rcases Int.lt_or_le m n with h | h
    · exact h
    · exact absurd ⟨by omega, c2, c3, c4, h⟩ H.out
  have d5 : decide (m < n) = true := decide_eq_true c5
  clear c2 c3 c4 H
  go_enter Try.func5, Try.ntmps5
  go_wp2_with fail
  refine (CU.out _ (Below.refl _ _)).mono ?_
  rintro e w1 ⟨rfl, hb⟩
  have B1 := Lib.hid hb
  clear hb
  go_wp2_with fail
  refine (CN.out _).mono ?_
  rintro e w2 ⟨rfl, rfl⟩
  go_wp2_with fail
  refine (CM.out _).mono ?_
  rintro e w2 ⟨rfl, rfl⟩
  go_wp2_with fail
  refine (CS.out _).mono ?_
  rintro e w2 ⟨rfl, hb⟩
  have B2 := Lib.hid (show Below w.heap.size w w2 from bt B1.out hb)
  clear hb
  go_wp2
  go_ret
  exact ⟨rfl, B2.out⟩
set_option maxRecDepth 100000 in
set_option maxHeartbeats 1000000 in
theorem grows_in (n m : Int) (a : Option Addr) (cap : Nat) (l : List Sh) (w : World) (hp : ShA w a l) (h1 : l.length ≤ 60) (h2 : vS l = true) (h3 : 0 ≤ n ∧ n ≤ 1099511627776) (h4 : 0 ≤ m ∧ m ≤ 1099511627776) (h5 : n ≤ m) :
    Calls Try.prog 5 #[.int .i64 n, .int .i64 m, .slice a l.length cap] w (Truly w) := by
  obtain ⟨hok, hl⟩ := (vS_iff l).1 h2
  have CS := Lib.hid (fun W => sane W)
  have CU := Lib.hid (fun W (hb : Below w.heap.size w W) => validref_any a cap l W (hp.mono hb) (by omega))
  have CN := Lib.hid (fun W => capacity_any n W)
  have CM := Lib.hid (fun W => capacity_any m W)
  rw [h2] at CU; rw [decide_eq_true h3] at CN; rw [decide_eq_true h4] at CM
  have d5 : decide (m < n) = false := decide_eq_false (by omega)
  have C1 := Lib.hid (fun W (hb : Below w.heap.size w W) => fair_any n a cap l W (hp.mono hb) hok hl h3.1 h3.2)
  have C2 := Lib.hid (fun W (hb : Below w.heap.size w W) => fair_any m a cap l W (hp.mono hb) hok hl h4.1 h4.2)
  have C3 := Lib.hid (fun W (hb : Below w.heap.size w W) => level_any n a cap l W (hp.mono hb) hok hl h3.1)
  have C4 := Lib.hid (fun W (hb : Below w.heap.size w W) => level_any m a cap l W (hp.mono hb) hok hl h4.1)
  have LV := Lib.hid (show ∀ x y, IsLev n l x → IsLev m l y → x ≤ y from fun x y h k => h.mono hok k h5)
  have MO := Lib.hid (show ∀ x y, IsLev n l x → IsLev m l y → ∀ k, k < l.length → (fairC n x l).getD k 0 ≤ (fairC m y l).getD k 0 from fun x y h k i hi => fairC_mono n m x y l hok h k h5 i hi)
  have FL := Lib.hid (fun c x => show (fairC c x l).length = l.length by unfold fairC; exact fairL_len _ _ _)
  obtain ⟨N, hN⟩ : ∃ N, l.length = N := ⟨_, rfl⟩
  rw [hN] at hl h1 CU C1 C2 C3 C4 MO FL ⊢
  have t1 : ((N : Int) != (N : Int)) = false := by simp
  clear hp h2 h3 h4 h5 hok hN
  go_enter Try.func5, Try.ntmps5
  go_wp2_with fail
  refine (CU.out _ (Below.refl _ _)).mono ?_
  rintro e w1 ⟨rfl, hb⟩
  have B1 := Lib.hid hb
  clear hb
  go_wp2_with fail
  refine (CN.out _).mono ?_
  rintro e w2 ⟨rfl, rfl⟩
  go_wp2_with fail
  refine (CM.out _).mono ?_
  rintro e w2 ⟨rfl, rfl⟩
  go_wp2_with fail
  refine (C1.out _ B1.out).mono ?_
  rintro e w2 ⟨x, g, rfl, hx, -, hr, hb⟩
  have B2 := Lib.hid (show Below w.heap.size w w2 from bt B1.out hb)
  have HX := Lib.hid hx
  have R1 := Lib.hid hr
  clear hb hx hr
  go_wp2_with fail
  refine (C2.out _ B2.out).mono ?_
  rintro e w3 ⟨y, k, rfl, hy, -, hr, hb⟩
  have B3 := Lib.hid (show Below w.heap.size w w3 from bt B2.out hb)
  have HY := Lib.hid hy
  have R2 := Lib.hid hr
  replace R1 := Lib.hid (R1.out.below hb R1.out.lt)
  clear hb hy hr
  go_wp2_with fail
  refine (C3.out _ B3.out).mono ?_
  rintro e w4 ⟨x', rfl, hx, hb⟩
  have B4 := Lib.hid (show Below w.heap.size w w4 from bt B3.out hb)
  have HX' := Lib.hid hx
  replace R1 := Lib.hid (R1.out.below hb R1.out.lt)
  replace R2 := Lib.hid (R2.out.below hb R2.out.lt)
  clear hb hx
  go_wp2_with fail
  refine (C4.out _ B4.out).mono ?_
  rintro e w5 ⟨y', rfl, hy, hb⟩
  have B5 := Lib.hid (show Below w.heap.size w w5 from bt B4.out hb)
  have hle := LV.out _ _ HX'.out hy
  have d6 : decide (y' < x') = false := decide_eq_false (by omega)
  replace R1 := Lib.hid (R1.out.below hb R1.out.lt)
  replace R2 := Lib.hid (R2.out.below hb R2.out.lt)
  have MN := Lib.hid (MO.out x y HX.out HY.out)
  obtain ⟨f1, hf1⟩ : ∃ f, fairC n x l = f := ⟨_, rfl⟩
  obtain ⟨f2, hf2⟩ : ∃ f, fairC m y l = f := ⟨_, rfl⟩
  have L1 := Lib.hid (FL.out n x)
  have L2 := Lib.hid (FL.out m y)
  rw [hf1] at R1 MN L1
  rw [hf2] at R2 MN L2
  clear hb hy hle hf1 hf2 C1 C2 C3 C4 CU CN CM LV MO FL
  go_wp2
  go_loopw [9, 63] (fun _ u63 wr => ∃ k : Nat, k ≤ N ∧ u63 = .int .i64 k ∧ Hid (Below w5.heap.size w5 wr)) (fun _ u63 _ => N - (intOf u63).toNat)
  case atStart => exact ⟨0, by omega, rfl, Lib.hid (Below.refl _ _)⟩
  case round =>
    obtain ⟨i, hi, rfl, hbe⟩ := hrel
    by_cases hlt : i < N
    · have q1 := (R1.out.below hbe.out R1.out.lt).cell (k := i) (by rw [L1.out]; exact hlt)
      have q2 := (R2.out.below hbe.out R2.out.lt).cell (k := i) (by rw [L2.out]; exact hlt)
      have hle := MN.out i hlt
      obtain ⟨u, hu⟩ : ∃ u, f1.getD i 0 = u := ⟨_, rfl⟩
      obtain ⟨v, hv⟩ : ∃ v, f2.getD i 0 = v := ⟨_, rfl⟩
      rw [hu] at q1 hle
      rw [hv] at q2 hle
      have d7 : decide (v < u) = false := decide_eq_false (by omega)
      clear hu hv hle
      go_wp2
      go_quiet (fail)
      go_wp2
      go_roundw
      case rel => exact ⟨i + 1, by omega, by go_num, Lib.hid (below_dn hbe.out)⟩
      case measure => simp [intOf]; omega
    · go_wp2_with fail
      refine (CS.out _).mono ?_
      rintro e w6 ⟨rfl, hb⟩
      have B6 := Lib.hid (show Below w.heap.size w w6 from bt (bt B5.out hbe.out) hb)
      clear hb hbe
      go_wp2
      go_ret
      exact ⟨rfl, B6.out⟩
theorem grows (n m : Int) (a : Option Addr) (cap : Nat) (l : List Sh) (w : World) (hp : ShA w a l) (hl : l.length ≤ 9223372036854775807) :
    Calls Try.prog 5 #[.int .i64 n, .int .i64 m, .slice a l.length cap] w (Truly w) := by
  by_cases h : l.length ≤ 60 ∧ vS l = true ∧ (0 ≤ n ∧ n ≤ 1099511627776) ∧ (0 ≤ m ∧ m ≤ 1099511627776) ∧ n ≤ m
  · exact grows_in n m a cap l w hp h.1 h.2.1 h.2.2.1 h.2.2.2.1 h.2.2.2.2
  · exact grows_out n m a cap l w hp hl h
end Go.Proofs.Ytjmegfejnocegaa
