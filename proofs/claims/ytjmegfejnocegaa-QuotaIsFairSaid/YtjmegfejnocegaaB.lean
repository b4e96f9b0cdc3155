/- Contracts: what all have at a level; the greatest level. -/
import Derived.Test.YtjmegfejnocegaaA
namespace Go.Proofs.Ytjmegfejnocegaa
set_option linter.unusedVariables false
set_option linter.unusedSimpArgs false
open Go.RowKit
set_option maxHeartbeats 400000 in
theorem allref_any (n : Int) (a : Option Addr) (cap : Nat) (l : List Sh) (w : World) (hp : ShA w a l) (hok : OkS l) (hm : l.length ≤ 1000) (h0 : 0 ≤ n) (h1 : n ≤ 1099511627777) :
    Calls Try.prog 37 #[.slice a l.length cap, .int .i64 n] w fun e w' => e = .returned (.int .i64 (allL n l)) ∧ Below w.heap.size w w' := by
  obtain ⟨N, hN⟩ : ∃ N, l.length = N := ⟨_, rfl⟩
  have HE := Lib.hid hN; have HP := Lib.hid hp; have HK := Lib.hid hok
  have H0 := Lib.hid h0; have H1 := Lib.hid h1
  rw [hN] at hm ⊢
  clear hp hN hok h0 h1
  go_enter Try.func37, Try.ntmps37
  go_wp2
  go_loopw [5, 6] (fun u5 u6 wr => ∃ (k : Nat) (s : Int), k ≤ N ∧ u6 = .int .i64 k ∧ u5 = .int .i64 s ∧ 0 ≤ s ∧ s ≤ 1099511627776 * k ∧ Hid (allL n (l.take k) = s) ∧ Hid (Below w.heap.size w wr)) (fun _ u6 _ => N - (intOf u6).toNat)
  case atStart => exact ⟨0, 0, by omega, rfl, rfl, by omega, by omega, Lib.hid rfl, Lib.hid (Below.refl _ _)⟩
  case round =>
    obtain ⟨k, s, hk, rfl, rfl, s0, s1, hs, hbe⟩ := hrel
    by_cases hlt : k < N
    · obtain ⟨b, off, rfl, q0, q1⟩ := ShA.at_ (HP.out.mono hbe.out) (k := k) (by rw [HE.out]; exact hlt)
      have ok := HK.out.at_ (k := k) (by rw [HE.out]; exact hlt)
      have ht := allL_take n l k (by rw [HE.out]; exact hlt)
      rw [hs.out] at ht
      obtain ⟨x, hx⟩ : ∃ x, l.getD k (0, 0) = x := ⟨_, rfl⟩
      rw [hx] at q0 q1 ok ht
      have C := Lib.hid (fun W => atref_any n x W ok H0.out H1.out)
      have bd := atL_bd n x ok H0.out
      have x4 := ok.2.2.2
      obtain ⟨v, hv⟩ : ∃ v, atL n x = v := ⟨_, rfl⟩
      rw [hv] at C bd ht
      obtain ⟨x1, x2⟩ := x
      simp only at q0 q1 C bd x4
      obtain ⟨bd0, bd1⟩ := bd
      have HT := Lib.hid ht
      clear hx ok ht hv hs
      go_wp2_with fail
      refine (C.out _).mono ?_
      rintro e w1 ⟨rfl, hb⟩
      have B1 := Lib.hid (show Below w.heap.size w w1 from bt hbe.out hb)
      clear hb hbe q0 q1
      go_wp2
      go_roundw
      case rel => exact ⟨k + 1, s + v, by omega, by go_num, rfl, by omega, by omega, HT, B1⟩
      case measure => simp [intOf]; omega
    · have hf' := hs.out
      rw [List.take_of_length_le (by rw [HE.out]; omega)] at hf'
      have HF := Lib.hid hf'
      clear hf'
      go_wp2
      go_ret
      exact ⟨by rw [HF.out]; rfl, hbe.out⟩
set_option maxHeartbeats 400000 in
theorem closure_any (n c : Int) (a : Option Addr) (cap : Nat) (l : List Sh) (g1 g2 : Nat) (w : World) (hp : ShA w a l) (hok : OkS l) (hm : l.length ≤ 1000) (h0 : 0 ≤ n) (h1 : n ≤ 1099511627777)
    (c1 : w.cell? ⟨g1, 0, none⟩ = some (.slice a l.length cap)) (c2 : w.cell? ⟨g2, 0, none⟩ = some (.int .i64 c)) :
    Calls Try.prog 35 #[.int .i64 n, .pointer (some ⟨g1, 0, none⟩), .pointer (some ⟨g2, 0, none⟩)] w fun e w' => e = .returned (.bool (decide (allL n l ≤ c))) ∧ Below w.heap.size w w' := by
  obtain ⟨N, hN⟩ : ∃ N, l.length = N := ⟨_, rfl⟩
  have HE := Lib.hid hN; have HP := Lib.hid hp; have HK := Lib.hid hok
  have H0 := Lib.hid h0; have H1 := Lib.hid h1
  have C2 := Lib.hid c2
  rw [hN] at hm c1
  clear hp hN hok h0 h1 c2
  go_enter Try.func35, Try.ntmps35
  go_wp2
  go_loopw [5, 7, 10] (fun u5 _ u10 wr => ∃ (k : Nat) (s : Int), k ≤ N ∧ u10 = .int .i64 k ∧ u5 = .int .i64 s ∧ 0 ≤ s ∧ s ≤ 1099511627776 * k ∧ Hid (allL n (l.take k) = s) ∧ Hid (Below w.heap.size w wr)) (fun _ _ u10 _ => N - (intOf u10).toNat)
  case atStart => exact ⟨0, 0, by omega, rfl, rfl, by omega, by omega, Lib.hid rfl, Lib.hid (Below.refl _ _)⟩
  case round =>
    obtain ⟨k, s, hk, rfl, rfl, s0, s1, hs, hbe⟩ := hrel
    by_cases hlt : k < N
    · obtain ⟨b, off, rfl, q0, q1⟩ := ShA.at_ (HP.out.mono hbe.out) (k := k) (by rw [HE.out]; exact hlt)
      have ok := HK.out.at_ (k := k) (by rw [HE.out]; exact hlt)
      have ht := allL_take n l k (by rw [HE.out]; exact hlt)
      rw [hs.out] at ht
      obtain ⟨x, hx⟩ : ∃ x, l.getD k (0, 0) = x := ⟨_, rfl⟩
      rw [hx] at q0 q1 ok ht
      have C := Lib.hid (fun W => at_any n x W ok H0.out H1.out)
      have bd := atL_bd n x ok H0.out
      have x4 := ok.2.2.2
      obtain ⟨v, hv⟩ : ∃ v, atL n x = v := ⟨_, rfl⟩
      rw [hv] at C bd ht
      obtain ⟨x1, x2⟩ := x
      simp only at q0 q1 C bd x4
      obtain ⟨bd0, bd1⟩ := bd
      have HT := Lib.hid ht
      clear hx ok ht hv hs
      go_wp2_with fail
      refine (C.out _).mono ?_
      rintro e w1 ⟨rfl, hb⟩
      have B1 := Lib.hid (show Below w.heap.size w w1 from bt (hbe.out.alloc hbe.out.size _) hb)
      clear hb hbe q0 q1
      go_wp2
      go_roundw
      case rel => exact ⟨k + 1, s + v, by omega, by go_num, rfl, by omega, by omega, HT, B1⟩
      case measure => simp [intOf]; omega
    · have hf' := hs.out
      rw [List.take_of_length_le (by rw [HE.out]; omega)] at hf'
      have HF := Lib.hid hf'
      have d2 : wr.cell? ⟨g2, 0, none⟩ = some (.int .i64 c) := keep C2.out hbe.out
      clear hf'
      go_wp2
      go_ret
      exact ⟨ret_bool (by rw [HF.out]; try rfl), hbe.out⟩
theorem half_bd (a b : Int) (h : a < b) : a + 1 ≤ a + (b - a + 1) / 2 ∧ a + (b - a + 1) / 2 ≤ b := by omega
set_option maxHeartbeats 400000 in
theorem level_any (c : Int) (a : Option Addr) (cap : Nat) (l : List Sh) (w : World) (hp : ShA w a l) (hok : OkS l) (hm : l.length ≤ 1000) (hc : 0 ≤ c) :
    Calls Try.prog 13 #[.int .i64 c, .slice a l.length cap] w fun e w' => ∃ n, e = .returned (.int .i64 n) ∧ IsLev c l n ∧ Below w.heap.size w w' := by
  have HL : ∀ (W : World) (g1 g2 : Nat) (hp : ShA W a l) (c1 : W.cell? ⟨g1, 0, none⟩ = some (.slice a l.length cap)) (c2 : W.cell? ⟨g2, 0, none⟩ = some (.int .i64 c)),
      Calls Try.prog 34 #[.int .i64 0, .int .i64 1099511627776, .func (.func 35) #[] #[.pointer (some ⟨g1, 0, none⟩), .pointer (some ⟨g2, 0, none⟩)]] W fun e w' => ∃ n, e = .returned (.int .i64 n) ∧ IsLev c l n ∧ Below W.heap.size W w' := by
    intro W g1 g2 hp c1 c2
    have HP := Lib.hid hp; have HK := Lib.hid hok; have HM := Lib.hid hm; have C1 := Lib.hid c1; have C2 := Lib.hid c2
    have HZ := Lib.hid (show allL 0 l ≤ c by rw [allL_zero l hok]; exact hc)
    clear hp hok hm c1 c2
    go_enter Try.func34, Try.ntmps34
    go_wp2
    go_loopw [0, 1, 7] (fun u0 u1 _ wr => ∃ x y : Int, u0 = .int .i64 x ∧ u1 = .int .i64 y ∧ 0 ≤ x ∧ x ≤ y ∧ y ≤ 1099511627776 ∧ Hid (allL x l ≤ c) ∧ Hid (y = 1099511627776 ∨ c < allL (y + 1) l) ∧ Hid (Below W.heap.size W wr)) (fun u0 u1 _ _ => (intOf u1 - intOf u0).toNat)
    case atStart => exact ⟨0, 1099511627776, rfl, rfl, by omega, by omega, by omega, HZ, Lib.hid (Or.inl rfl), Lib.hid (Below.refl _ _)⟩
    case round =>
      obtain ⟨x, y, rfl, rfl, x0, hxy, y1, hx, hy, hbe⟩ := hrel
      by_cases hlt : x < y
      · obtain ⟨m1, m2⟩ := half_bd x y hlt
        have e1 : (y - x + 1).tdiv 2 = (y - x + 1) / 2 := Int.tdiv_eq_ediv_of_nonneg (by omega)
        obtain ⟨m, hm⟩ : ∃ m, x + (y - x + 1) / 2 = m := ⟨_, rfl⟩
        rw [hm] at m1 m2
        obtain ⟨q, hq⟩ : ∃ q, (y - x + 1) / 2 = q := ⟨_, rfl⟩
        rw [hq] at e1 hm
        have C := Lib.hid (fun V (hV : Below W.heap.size W V) => closure_any m c a cap l g1 g2 V (HP.out.mono hV) HK.out HM.out (by omega) (by omega) (keep C1.out hV) (keep C2.out hV))
        have wm : IntKind.i64.wrap m = m := by rw [IntKind.wrap_i64]; omega
        have wq : IntKind.i64.wrap q = q := by rw [IntKind.wrap_i64]; omega
        by_cases hd : allL m l ≤ c
        · have HD := Lib.hid hd
          rw [decide_eq_true hd] at C
          clear hd hq hx
          go_wp2_with fail
          refine (C.out _ hbe.out).mono ?_
          rintro e w1 ⟨rfl, hb⟩
          have B1 := Lib.hid (show Below W.heap.size W w1 from bt hbe.out hb)
          clear hb hbe
          go_wp2
          go_roundw
          case rel => exact ⟨m, y, rfl, rfl, by omega, by omega, by omega, HD, hy, B1⟩
          case measure => simp [intOf]; omega
        · have HD := Lib.hid (show m - 1 = 1099511627776 ∨ c < allL (m - 1 + 1) l from Or.inr (by rw [show m - 1 + 1 = m by omega]; omega))
          rw [decide_eq_false hd] at C
          clear hd hq hy
          go_wp2_with fail
          refine (C.out _ hbe.out).mono ?_
          rintro e w1 ⟨rfl, hb⟩
          have B1 := Lib.hid (show Below W.heap.size W w1 from bt hbe.out hb)
          clear hb hbe
          go_wp2
          go_roundw
          case rel => exact ⟨x, m - 1, rfl, rfl, by omega, by omega, by omega, hx, HD, B1⟩
          case measure => simp [intOf]; omega
      · obtain rfl : x = y := by omega
        have LV := Lib.hid (show IsLev c l x from ⟨x0, y1, hx.out, hy.out⟩)
        clear hx hy
        go_wp2
        go_ret
        exact ⟨_, rfl, LV.out, hbe.out⟩
  have HLH := Lib.hid HL
  have HP := Lib.hid hp
  clear HL hp hok hm hc
  go_enter Try.func13, Try.ntmps13
  go_wp2_with fail
  refine (HLH.out _ _ _ (HP.out.mono (by (repeat' (first | (with_reducible exact Below.refl _ _) | (with_reducible assumption) | (with_reducible refine Below.alloc ?_ ?_ _) | (with_reducible refine Below.drew ?_) | (with_reducible refine below_dn ?_) | (with_reducible refine Below.setCell ?_ ?_ _) | (with_reducible exact Nat.le_refl _) | omega | (simp only [World.size_alloc, World.size_setCell, World.size_drew]; omega) | (simp; omega) | (simp; done))))) (by go_cell) (by go_cell)).mono ?_
  rintro e w1 ⟨n, rfl, hl, hb⟩
  have LV := Lib.hid hl
  have B1 := Lib.hid (show Below w.heap.size w w1 from bt (by (repeat' (first | (with_reducible exact Below.refl _ _) | (with_reducible assumption) | (with_reducible refine Below.alloc ?_ ?_ _) | (with_reducible refine Below.drew ?_) | (with_reducible refine below_dn ?_) | (with_reducible refine Below.setCell ?_ ?_ _) | (with_reducible exact Nat.le_refl _) | omega | (simp only [World.size_alloc, World.size_setCell, World.size_drew]; omega) | (simp; omega) | (simp; done)))) hb)
  clear hl hb
  go_wp2
  go_ret
  exact ⟨_, rfl, LV.out, B1.out⟩
set_option maxHeartbeats 400000 in
theorem levelref_any (c : Int) (a : Option Addr) (cap : Nat) (l : List Sh) (w : World) (hp : ShA w a l) (hok : OkS l) (hm : l.length ≤ 1000) (hc : 0 ≤ c) :
    Calls Try.prog 14 #[.int .i64 c, .slice a l.length cap] w fun e w' => ∃ n, e = .returned (.int .i64 n) ∧ IsLev c l n ∧ Below w.heap.size w w' := by
  have HP := Lib.hid hp; have HK := Lib.hid hok; have HM := Lib.hid hm
  have HZ := Lib.hid (show allL 0 l ≤ c by rw [allL_zero l hok]; exact hc)
  clear hp hok hm hc
  go_enter Try.func14, Try.ntmps14
  go_wp2
  go_loopw [5, 6, 7] (fun u5 u6 _ wr => ∃ x y : Int, u5 = .int .i64 x ∧ u6 = .int .i64 y ∧ 0 ≤ x ∧ x < y ∧ y ≤ 1099511627777 ∧ Hid (allL x l ≤ c) ∧ Hid (y = 1099511627777 ∨ c < allL y l) ∧ Hid (Below w.heap.size w wr)) (fun u5 u6 _ _ => (intOf u6 - intOf u5).toNat)
  case atStart => exact ⟨0, 1099511627777, rfl, rfl, by omega, by omega, by omega, HZ, Lib.hid (Or.inl rfl), Lib.hid (Below.refl _ _)⟩
  case round =>
    obtain ⟨x, y, rfl, rfl, x0, hxy, y1, hx, hy, hbe⟩ := hrel
    by_cases hlt : 1 < y - x
    · have m1 : x < (x + y) / 2 := by omega
      have m2 : (x + y) / 2 < y := by omega
      have e1 : (x + y).tdiv 2 = (x + y) / 2 := Int.tdiv_eq_ediv_of_nonneg (by omega)
      obtain ⟨m, hm⟩ : ∃ m, (x + y) / 2 = m := ⟨_, rfl⟩
      rw [hm] at m1 m2 e1
      have C := Lib.hid (fun V (hV : Below w.heap.size w V) => allref_any m a cap l V (HP.out.mono hV) HK.out HM.out (by omega) (by omega))
      by_cases hd : allL m l ≤ c
      · have HD := Lib.hid hd
        obtain ⟨S, hS⟩ : ∃ S, allL m l = S := ⟨_, rfl⟩
        rw [hS] at C hd
        clear hS hx
        go_wp2_with fail
        refine (C.out _ hbe.out).mono ?_
        rintro e w1 ⟨rfl, hb⟩
        have B1 := Lib.hid (show Below w.heap.size w w1 from bt hbe.out hb)
        clear hb hbe
        go_wp2
        go_roundw
        case rel => exact ⟨m, y, rfl, rfl, by omega, by omega, by omega, HD, hy, B1⟩
        case measure => simp [intOf]; omega
      · have HD := Lib.hid (show m = 1099511627777 ∨ c < allL m l from Or.inr (by omega))
        obtain ⟨S, hS⟩ : ∃ S, allL m l = S := ⟨_, rfl⟩
        rw [hS] at C hd
        clear hS hy
        go_wp2_with fail
        refine (C.out _ hbe.out).mono ?_
        rintro e w1 ⟨rfl, hb⟩
        have B1 := Lib.hid (show Below w.heap.size w w1 from bt hbe.out hb)
        clear hb hbe
        go_wp2
        go_roundw
        case rel => exact ⟨x, m, rfl, rfl, by omega, by omega, by omega, hx, HD, B1⟩
        case measure => simp [intOf]; omega
    · obtain rfl : y = x + 1 := by omega
      have LV := Lib.hid (show IsLev c l x from ⟨x0, by omega, hx.out, by have := hy.out; omega⟩)
      clear hx hy
      go_wp2
      go_ret
      exact ⟨_, rfl, LV.out, hbe.out⟩
end Go.Proofs.Ytjmegfejnocegaa
