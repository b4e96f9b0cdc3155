/- Contracts: the reference's within. -/
import Derived.Test.YtjmegfejnocegaaF
namespace Go.Proofs.Ytjmegfejnocegaa
set_option linter.unusedVariables false
set_option linter.unusedSimpArgs false
open Go.RowKit
instance (l : List Sh) (gs : List Int) (n : Int) (k : Nat) : Decidable (Win l gs n k) := by unfold Win; infer_instance
def winB (l : List Sh) (gs : List Int) (n : Int) : Bool := decide (Win l gs n l.length)
theorem winB_no {l : List Sh} {gs : List Int} {n : Int} {k : Nat} (hk : k < l.length) (h : ¬ (¬ (gs.getD k 0 < (l.getD k (0, 0)).2 ∧ gs.getD k 0 < (l.getD k (0, 0)).1 * n) ∧ gs.getD k 0 ≤ (l.getD k (0, 0)).1 * (n + 1))) : winB l gs n = false :=
  decide_eq_false fun e => h (e k hk)
theorem Win.snoc {l : List Sh} {gs : List Int} {n : Int} {k : Nat} (h : Win l gs n k) (h2 : ¬ (gs.getD k 0 < (l.getD k (0, 0)).2 ∧ gs.getD k 0 < (l.getD k (0, 0)).1 * n) ∧ gs.getD k 0 ≤ (l.getD k (0, 0)).1 * (n + 1)) : Win l gs n (k + 1) := fun j hj => by
  rcases Nat.lt_or_ge j k with h' | h'
  · exact h j h'
  · rw [show j = k by omega]; exact h2
set_option maxRecDepth 100000 in
set_option maxHeartbeats 1000000 in
theorem within_any (n : Int) (a b : Option Addr) (cap cb : Nat) (l : List Sh) (gs : List Int) (w : World) (hp : ShA w a l) (hq : IntsA w b gs) (hok : OkS l) (hm : l.length ≤ 1000) (hl : gs.length = l.length) (hn : 0 ≤ n) (hnM : n ≤ 1099511627776) :
    Calls Try.prog 39 #[.slice a l.length cap, .slice b l.length cb, .int .i64 n] w fun e w' => e = .returned (.bool (winB l gs n)) ∧ Below w.heap.size w w' := by
  have HP := Lib.hid hp; have HK := Lib.hid hok; have HQ := Lib.hid hq; have HL := Lib.hid hl
  obtain ⟨N, hN⟩ : ∃ N, l.length = N := ⟨_, rfl⟩
  have HE := Lib.hid hN
  rw [hN] at hm ⊢
  clear hp hq hok hN hl
  go_enter Try.func39, Try.ntmps39
  go_wp2
  go_loopw [7] (fun u7 wr => ∃ (k : Nat), k ≤ N ∧ u7 = .int .i64 k ∧ Hid (Win l gs n k) ∧ Hid (Below w.heap.size w wr)) (fun u7 _ => N - (intOf u7).toNat)
  case atStart => exact ⟨0, by omega, rfl, Lib.hid (fun j hj => absurd hj (by omega)), Lib.hid (Below.refl _ _)⟩
  case round =>
    obtain ⟨k, hk, rfl, hs, hbe⟩ := hrel
    by_cases hlt : k < N
    · obtain ⟨b1, off, rfl, q0, q1⟩ := ShA.at_ (HP.out.mono hbe.out) (k := k) (by rw [HE.out]; exact hlt)
      obtain ⟨b2, off2, rfl, q2⟩ := HQ.out.mono hbe.out k (by rw [HL.out, HE.out]; exact hlt)
      have ok := HK.out.at_ (k := k) (by rw [HE.out]; exact hlt)
      have NO := Lib.hid (fun h => winB_no (l := l) (gs := gs) (n := n) (k := k) (by rw [HE.out]; exact hlt) h)
      have YES := Lib.hid (fun h => Win.snoc hs.out h)
      obtain ⟨g, hg⟩ : ∃ g, gs.getD k 0 = g := ⟨_, rfl⟩
      obtain ⟨x, hx⟩ : ∃ x, l.getD k (0, 0) = x := ⟨_, rfl⟩
      rw [hx] at q0 q1 ok NO YES
      rw [hg] at q2 NO YES
      have pb := prod_bd n x ok hn (by omega)
      have pb2 := prod_bd (n + 1) x ok (by omega) (by omega)
      obtain ⟨x1, x2⟩ := x
      obtain ⟨o1, o2, o3, o4⟩ := ok
      rw [Int.mul_comm] at pb pb2
      simp only at q0 q1 o1 o2 o3 o4 NO YES pb pb2
      obtain ⟨P, hP⟩ : ∃ P, x1 * n = P := ⟨_, rfl⟩
      obtain ⟨R, hR⟩ : ∃ R, x1 * (n + 1) = R := ⟨_, rfl⟩
      rw [hP] at pb NO YES
      rw [hR] at pb2 NO YES
      obtain ⟨pb1, pb2'⟩ := pb
      obtain ⟨pb3, pb4⟩ := pb2
      have wP : IntKind.i64.wrap P = P := by rw [IntKind.wrap_i64]; omega
      have wR : IntKind.i64.wrap R = R := by rw [IntKind.wrap_i64]; omega
      have wn : IntKind.i64.wrap (n + 1) = n + 1 := by rw [IntKind.wrap_i64]; omega
      clear hg hx hs
      by_cases c1 : g < x2
      · have d1 : decide (g < x2) = true := decide_eq_true c1
        by_cases c2 : g < P
        · have d2 : decide (g < P) = true := decide_eq_true c2
          have Y := Lib.hid (NO.out (fun h => by omega))
          clear NO YES
          go_wp2
          go_quiet (fail)
          go_wp2
          go_ret
          exact ⟨ret_bool Y.out.symm, below_dn hbe.out⟩
        · have d2 : decide (g < P) = false := decide_eq_false c2
          by_cases c3 : R < g
          · have d3 : decide (R < g) = true := decide_eq_true c3
            have Y := Lib.hid (NO.out (fun h => by omega))
            clear NO YES
            go_wp2
            go_quiet (fail)
            go_wp2
            go_ret
            exact ⟨ret_bool Y.out.symm, below_dn hbe.out⟩
          · have d3 : decide (R < g) = false := decide_eq_false c3
            have Y := Lib.hid (YES.out (by omega))
            clear NO YES
            go_wp2
            go_quiet (fail)
            go_wp2
            go_roundw
            case rel => exact ⟨k + 1, by omega, by go_num, Y, Lib.hid (below_dn hbe.out)⟩
            case measure => simp [intOf]; omega
      · have d1 : decide (g < x2) = false := decide_eq_false c1
        by_cases c3 : R < g
        · have d3 : decide (R < g) = true := decide_eq_true c3
          have Y := Lib.hid (NO.out (fun h => by omega))
          clear NO YES
          go_wp2
          go_quiet (fail)
          go_wp2
          go_ret
          exact ⟨ret_bool Y.out.symm, below_dn hbe.out⟩
        · have d3 : decide (R < g) = false := decide_eq_false c3
          have Y := Lib.hid (YES.out (by omega))
          clear NO YES
          go_wp2
          go_quiet (fail)
          go_wp2
          go_roundw
          case rel => exact ⟨k + 1, by omega, by go_num, Y, Lib.hid (below_dn hbe.out)⟩
          case measure => simp [intOf]; omega
    · have hkN : k = N := by omega
      have HF := Lib.hid (show winB l gs n = true from decide_eq_true (by rw [HE.out, ← hkN]; exact hs.out))
      clear hs hkN
      go_wp2
      go_ret
      exact ⟨ret_bool HF.out.symm, hbe.out⟩
set_option maxRecDepth 100000 in
set_option maxHeartbeats 1000000 in
theorem explainsref_any (c : Int) (a b : Option Addr) (cap cb : Nat) (l : List Sh) (gs : List Int) (w : World) (hp : ShA w a l) (hq : IntsA w b gs) (hok : OkS l) (hm : l.length ≤ 1000) (hgm : gs.length ≤ 9223372036854775807) (hc : 0 ≤ c) (hcM : c ≤ 1099511627776) :
    Calls Try.prog 19 #[.int .i64 c, .slice a l.length cap, .slice b gs.length cb] w fun e w' => e = .returned (.bool (exB c l gs)) ∧ Below w.heap.size w w' := by
  by_cases hne : gs.length = l.length
  · rw [hne]
    have CW := Lib.hid (fun W n (hb : Below w.heap.size w W) h0 h1 => within_any n a b cap cb l gs W (hp.mono hb) (hq.mono hb) hok hm hne h0 h1)
    have HP := Lib.hid hp; have HK := Lib.hid hok; have HQ := Lib.hid hq; have HL := Lib.hid hne
    obtain ⟨N, hN⟩ : ∃ N, l.length = N := ⟨_, rfl⟩
    have HE := Lib.hid hN
    rw [hN] at hm CW ⊢
    have t1 : ((N : Int) != N) = false := by simp
    clear hp hq hok hN hne hgm
    go_enter Try.func19, Try.ntmps19
    go_wp2
    go_loopw [7, 8, 9, 10] (fun u7 u8 u9 u10 wr => ∃ (k : Nat) (lo s t : Int), k ≤ N ∧ u10 = .int .i64 k ∧ u9 = .int .i64 lo ∧ u7 = .int .i64 s ∧ u8 = .int .i64 t ∧ 0 ≤ lo ∧ lo ≤ 1099511627776 ∧ 0 ≤ s ∧ s ≤ 1099511627776 * k ∧ 0 ≤ t ∧ t ≤ 1099511627776 * k ∧
      Hid (InK l gs k ∧ lowK l gs k = lo ∧ sumF id (gs.take k) = s ∧ wants (l.take k) = t) ∧ Hid (Below w.heap.size w wr)) (fun _ _ _ u10 _ => N - (intOf u10).toNat)
    case atStart => exact ⟨0, 0, 0, 0, by omega, rfl, rfl, rfl, rfl, by omega, by omega, by omega, by omega, by omega, by omega, Lib.hid ⟨fun j hj => absurd hj (by omega), rfl, rfl, rfl⟩, Lib.hid (Below.refl _ _)⟩
    case round =>
      obtain ⟨k, lo, s, t, hk, rfl, rfl, rfl, rfl, l0, l1, s0, s1, t0, t1', hs, hbe⟩ := hrel
      by_cases hlt : k < N
      · obtain ⟨b1, off, rfl, q0, q1⟩ := ShA.at_ (HP.out.mono hbe.out) (k := k) (by rw [HE.out]; exact hlt)
        obtain ⟨b2, off2, rfl, q2⟩ := HQ.out.mono hbe.out k (by rw [HL.out, HE.out]; exact hlt)
        have ok := HK.out.at_ (k := k) (by rw [HE.out]; exact hlt)
        obtain ⟨i1, i2, i4, i5⟩ := hs.out
        have e1 := sum_step gs k (by rw [HL.out, HE.out]; exact hlt)
        have e2 := want_step l k (by rw [HE.out]; exact hlt)
        have e3 : lowK l gs (k + 1) = max (lowK l gs k) (ce (gs.getD k 0) (l.getD k (0, 0)).1) := rfl
        have NO := Lib.hid (fun h => exB_in (c := c) (l := l) (gs := gs) (k := k) (by rw [HE.out]; exact hlt) h)
        have YES := Lib.hid (fun h => InK.snoc i1 h)
        rw [i4] at e1; rw [i5] at e2; rw [i2] at e3
        obtain ⟨g, hg⟩ : ∃ g, gs.getD k 0 = g := ⟨_, rfl⟩
        obtain ⟨x, hx⟩ : ∃ x, l.getD k (0, 0) = x := ⟨_, rfl⟩
        rw [hx] at q0 q1 ok e2 e3 NO YES
        rw [hg] at q2 e1 e3 NO YES
        obtain ⟨x1, x2⟩ := x
        obtain ⟨o1, o2, o3, o4⟩ := ok
        simp only at q0 q1 o1 o2 o3 o4 e2 e3 NO YES
        clear hg hx i1 i2 i4 i5 hs
        by_cases g0 : g < 0
        · have Y := Lib.hid (NO.out (fun h => by omega))
          have d0 : decide (g < 0) = true := decide_eq_true g0
          clear NO YES e1 e2 e3
          go_wp2
          go_quiet (fail)
          go_wp2
          go_ret
          exact ⟨ret_bool Y.out.symm, below_dn hbe.out⟩
        have d0 : decide (g < 0) = false := decide_eq_false g0
        by_cases g1 : x2 < g
        · have Y := Lib.hid (NO.out (fun h => by omega))
          have d1 : decide (x2 < g) = true := decide_eq_true g1
          clear NO YES e1 e2 e3
          go_wp2
          go_quiet (fail)
          go_wp2
          go_ret
          exact ⟨ret_bool Y.out.symm, below_dn hbe.out⟩
        have d1 : decide (x2 < g) = false := decide_eq_false g1
        have Y := Lib.hid (YES.out ⟨by omega, by omega⟩)
        have cb := ce_bd g x1 o1 (by omega) (by omega)
        have ed : (g + x1 - 1).tdiv x1 = (g + x1 - 1) / x1 := Int.tdiv_eq_ediv_of_nonneg (by omega)
        obtain ⟨Q, hQ⟩ : ∃ Q, (g + x1 - 1) / x1 = Q := ⟨_, rfl⟩
        have hce : ce g x1 = Q - 1 := by unfold ce; rw [hQ]
        rw [hce] at cb e3
        rw [hQ] at ed
        have cb0 : 0 ≤ Q := by omega
        have cb1 : Q ≤ 1099511627777 := by omega
        have wQ1 : wrap64 (Q - 1) = Q - 1 := by unfold wrap64; omega
        have wQ2 : IntKind.i64.wrap (Q - 1) = Q - 1 := by rw [IntKind.wrap_i64]; omega
        have wQ : IntKind.i64.wrap Q = Q := by rw [IntKind.wrap_i64]; omega
        have w1 : IntKind.i64.wrap (g + x1) = g + x1 := by rw [IntKind.wrap_i64]; omega
        have w2 : IntKind.i64.wrap (g + x1 - 1) = g + x1 - 1 := by rw [IntKind.wrap_i64]; omega
        have zx : (x1 == 0) = false := beq_eq_false_iff_ne.2 (by omega)
        obtain ⟨L, hL⟩ : ∃ L, max lo (Q - 1) = L := ⟨_, rfl⟩
        have hLb : 0 ≤ L ∧ L ≤ 1099511627776 := by omega
        have hL2 : (if lo < Q - 1 then Q - 1 else lo) = L := by rw [← hL]; omega
        obtain ⟨L0, L1⟩ := hLb
        rw [hL] at e3
        have E1 := Lib.hid e1; have E2 := Lib.hid e2; have E3 := Lib.hid e3
        clear NO YES e1 e2 e3 hce cb
        go_wp2
        go_quiet (fail)
        obtain ⟨wx, hwx⟩ : ∃ W, wr.drewN nq = W := ⟨_, rfl⟩
        have x0 : wx.cell? ⟨b1, off + k * 2, none⟩ = some (.int .i64 x1) := by rw [← hwx]; exact q0
        have x1' : wx.cell? ⟨b1, off + k * 2 + 1, none⟩ = some (.int .i64 x2) := by rw [← hwx]; exact q1
        have x2' : wx.cell? ⟨b2, off2 + k, none⟩ = some (.int .i64 g) := by rw [← hwx]; exact q2
        have BX := Lib.hid (show Below w.heap.size w wx by rw [← hwx]; exact below_dn hbe.out)
        rw [hwx]
        clear hwx q0 q1 q2 hbe
        go_wp2
        go_quiet (fail)
        go_wp2
        go_roundw
        case rel => exact ⟨k + 1, L, s + g, t + x2, by omega, by go_num, rfl, rfl, rfl, by omega, by omega, by omega, by omega, by omega, by omega, Lib.hid ⟨Y.out, E3.out, E1.out, E2.out⟩, Lib.hid (below_dn BX.out)⟩
        case measure => simp [intOf]; omega
      · have hkN : k = N := by omega
        obtain ⟨i1, i2, i4, i5⟩ := hs.out
        have hik : InK l gs l.length := by rw [HE.out, ← hkN]; exact i1
        have hend := exB_end (c := c) (l := l) (gs := gs) HL.out hik
        have hw := win_iff l gs HK.out hik
        rw [HE.out, ← hkN, i2] at hend hw
        have hwb : winB l gs lo = decide (lo ≤ highK l gs k) := by
          unfold winB
          apply decide_eq_decide.mpr
          rw [HE.out, ← hkN]; exact hw
        rw [List.take_of_length_le (by rw [HL.out, HE.out]; omega)] at i4
        rw [List.take_of_length_le (by rw [HE.out]; omega)] at i5
        rw [i4, i5] at hend
        have C := Lib.hid (fun W hb => CW.out W lo hb l0 l1)
        rw [hwb] at C
        obtain ⟨T, hT⟩ : ∃ T, min c t = T := ⟨_, rfl⟩
        rw [hT] at hend
        clear i1 i2 i4 i5 hs hkN hw hwb hik CW
        by_cases p1 : s = T
        · have d1 : (s == T) = true := by rw [p1]; simp
          have d1' : decide (s = T) = true := decide_eq_true p1
          have HF := Lib.hid (hend.trans (show _ = decide (lo ≤ highK l gs k) from decide_eq_decide.mpr ⟨fun e => e.2, fun e => ⟨p1, e⟩⟩))
          obtain ⟨z, hz⟩ : ∃ z, decide (lo ≤ highK l gs k) = z := ⟨_, rfl⟩
          rw [hz] at C HF
          clear p1 hend hz
          go_wp2_with fail
          refine (C.out _ hbe.out).mono ?_
          rintro e w1 ⟨rfl, hb⟩
          have B1 := Lib.hid (show Below w.heap.size w w1 from bt hbe.out hb)
          clear hb hbe
          go_wp2
          go_ret
          exact ⟨ret_bool (by rw [HF.out]), B1.out⟩
        · have d1 : (s == T) = false := beq_eq_false_iff_ne.2 p1
          have d1' : decide (s = T) = false := decide_eq_false p1
          have HF := Lib.hid (hend.trans (decide_eq_false fun e => p1 e.1))
          clear p1 hend
          go_wp2
          go_ret
          exact ⟨ret_bool (by rw [HF.out]), hbe.out⟩
  · have Y := Lib.hid (exB_len (c := c) hne)
    have t1 : ((gs.length : Int) != (l.length : Int)) = true := bne_iff_ne.2 (by omega)
    obtain ⟨n, hn⟩ : ∃ n, l.length = n := ⟨_, rfl⟩
    obtain ⟨m, hm'⟩ : ∃ m, gs.length = m := ⟨_, rfl⟩
    rw [hn] at hm t1 ⊢
    rw [hm'] at hgm t1 ⊢
    clear hn hm' hne hp hq
    go_enter Try.func19, Try.ntmps19
    go_wp2
    go_ret
    exact ⟨ret_bool Y.out.symm, Below.refl _ _⟩
end Go.Proofs.Ytjmegfejnocegaa
