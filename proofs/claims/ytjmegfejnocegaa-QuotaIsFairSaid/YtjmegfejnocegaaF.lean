/- Contracts: Explains. -/
import Derived.Test.YtjmegfejnocegaaE
import Derived.Test.YtjmegfejnocegaaM2
namespace Go.Proofs.Ytjmegfejnocegaa
set_option linter.unusedVariables false
set_option linter.unusedSimpArgs false
open Go.RowKit
instance (c : Int) (l : List Sh) (gs : List Int) : Decidable (Exp c l gs) := by unfold Exp InK; infer_instance
def exB (c : Int) (l : List Sh) (gs : List Int) : Bool := decide (Exp c l gs)
theorem exB_len {c : Int} {l : List Sh} {gs : List Int} (h : gs.length ≠ l.length) : exB c l gs = false := decide_eq_false fun e => h e.1
theorem exB_in {c : Int} {l : List Sh} {gs : List Int} {k : Nat} (hk : k < l.length) (h : ¬ (0 ≤ gs.getD k 0 ∧ gs.getD k 0 ≤ (l.getD k (0, 0)).2)) : exB c l gs = false := decide_eq_false fun e => h (e.2.1 k hk)
theorem exB_end {c : Int} {l : List Sh} {gs : List Int} (hl : gs.length = l.length) (hi : InK l gs l.length) : exB c l gs = decide (sumF id gs = min c (wants l) ∧ lowK l gs l.length ≤ highK l gs l.length) := by
  unfold exB
  apply decide_eq_decide.mpr
  exact ⟨fun e => e.2.2, fun e => ⟨hl, hi, e⟩⟩
theorem sum_step (gs : List Int) (k : Nat) (h : k < gs.length) : sumF id (gs.take (k + 1)) = sumF id (gs.take k) + gs.getD k 0 := sumF_take id gs k 0 h
theorem want_step (l : List Sh) (k : Nat) (h : k < l.length) : wants (l.take (k + 1)) = wants (l.take k) + (l.getD k (0, 0)).2 := sumF_take _ l k (0, 0) h
set_option maxRecDepth 100000 in
set_option maxHeartbeats 1000000 in
theorem explains_any (c : Int) (a b : Option Addr) (cap cb : Nat) (l : List Sh) (gs : List Int) (w : World) (hp : ShA w a l) (hq : IntsA w b gs) (hok : OkS l) (hm : l.length ≤ 1000) (hgm : gs.length ≤ 9223372036854775807) (hc : 0 ≤ c) (hcM : c ≤ 1099511627776) :
    Calls Try.prog 18 #[.int .i64 c, .slice a l.length cap, .slice b gs.length cb] w fun e w' => e = .returned (.bool (exB c l gs)) ∧ Below w.heap.size w w' := by
  by_cases hne : gs.length = l.length
  · rw [hne]
    have HP := Lib.hid hp; have HK := Lib.hid hok; have HQ := Lib.hid hq; have HL := Lib.hid hne
    obtain ⟨N, hN⟩ : ∃ N, l.length = N := ⟨_, rfl⟩
    have HE := Lib.hid hN
    rw [hN] at hm ⊢
    have t1 : ((N : Int) != N) = false := by simp
    clear hp hq hok hN hne hgm
    go_enter Try.func18, Try.ntmps18
    go_wp2
    go_loopw [7, 8, 9, 10, 11, 12, 13, 21] (fun u7 u8 u9 u10 _ _ _ u21 wr => ∃ (k : Nat) (lo hi s t : Int), k ≤ N ∧ u21 = .int .i64 k ∧ u7 = .int .i64 lo ∧ u8 = .int .i64 hi ∧ u9 = .int .i64 s ∧ u10 = .int .i64 t ∧ 0 ≤ lo ∧ lo ≤ 1099511627776 ∧ 0 ≤ hi ∧ hi ≤ 1099511627776 ∧ 0 ≤ s ∧ s ≤ 1099511627776 * k ∧ 0 ≤ t ∧ t ≤ 1099511627776 * k ∧
      Hid (InK l gs k ∧ lowK l gs k = lo ∧ highK l gs k = hi ∧ sumF id (gs.take k) = s ∧ wants (l.take k) = t) ∧ Hid (Below w.heap.size w wr)) (fun _ _ _ _ _ _ _ u21 _ => N - (intOf u21).toNat)
    case atStart => exact ⟨0, 0, 1099511627776, 0, 0, by omega, rfl, rfl, rfl, rfl, rfl, by omega, by omega, by omega, by omega, by omega, by omega, by omega, by omega, Lib.hid ⟨fun j hj => absurd hj (by omega), rfl, rfl, rfl, rfl⟩, Lib.hid (Below.refl _ _)⟩
    case round =>
      obtain ⟨k, lo, hi, s, t, hk, rfl, rfl, rfl, rfl, rfl, l0, l1, h0, h1, s0, s1, t0, t1', hs, hbe⟩ := hrel
      by_cases hlt : k < N
      · obtain ⟨b1, off, rfl, q0, q1⟩ := ShA.at_ (HP.out.mono hbe.out) (k := k) (by rw [HE.out]; exact hlt)
        obtain ⟨b2, off2, rfl, q2⟩ := HQ.out.mono hbe.out k (by rw [HL.out, HE.out]; exact hlt)
        have ok := HK.out.at_ (k := k) (by rw [HE.out]; exact hlt)
        obtain ⟨i1, i2, i3, i4, i5⟩ := hs.out
        have e1 := sum_step gs k (by rw [HL.out, HE.out]; exact hlt)
        have e2 := want_step l k (by rw [HE.out]; exact hlt)
        have e3 : lowK l gs (k + 1) = max (lowK l gs k) (ce (gs.getD k 0) (l.getD k (0, 0)).1) := rfl
        have e4 : highK l gs (k + 1) = if gs.getD k 0 < (l.getD k (0, 0)).2 then min (highK l gs k) (gs.getD k 0 / (l.getD k (0, 0)).1) else highK l gs k := rfl
        have NO := Lib.hid (fun h => exB_in (c := c) (l := l) (gs := gs) (k := k) (by rw [HE.out]; exact hlt) h)
        have YES := Lib.hid (fun h => InK.snoc i1 h)
        rw [i4] at e1; rw [i5] at e2; rw [i2] at e3; rw [i3] at e4
        obtain ⟨g, hg⟩ : ∃ g, gs.getD k 0 = g := ⟨_, rfl⟩
        obtain ⟨x, hx⟩ : ∃ x, l.getD k (0, 0) = x := ⟨_, rfl⟩
        rw [hx] at q0 q1 ok e2 e3 e4 NO YES
        rw [hg] at q2 e1 e3 e4 NO YES
        obtain ⟨x1, x2⟩ := x
        obtain ⟨o1, o2, o3, o4⟩ := ok
        simp only at q0 q1 o1 o2 o3 o4 e2 e3 e4 NO YES
        have q3 : (wr.alloc (.cells #[.int .i64 x1, .int .i64 x2] 32)).cell? ⟨b2, off2 + k, none⟩ = some (.int .i64 g) := by
          rw [World.cell?_alloc_past _ _ _ (block_lt_of_cell q2)]; exact q2
        clear hg hx i1 i2 i3 i4 i5 hs
        by_cases g0 : g < 0
        · have Y := Lib.hid (NO.out (fun h => by omega))
          have d0 : decide (g < 0) = true := decide_eq_true g0
          clear NO YES e1 e2 e3 e4
          go_wp2
          go_ret
          exact ⟨ret_bool Y.out.symm, hbe.out.alloc hbe.out.size _⟩
        have d0 : decide (g < 0) = false := decide_eq_false g0
        by_cases g1 : x2 < g
        · have Y := Lib.hid (NO.out (fun h => by omega))
          have d1 : decide (x2 < g) = true := decide_eq_true g1
          clear NO YES e1 e2 e3 e4
          go_wp2
          go_ret
          exact ⟨ret_bool Y.out.symm, hbe.out.alloc hbe.out.size _⟩
        have d1 : decide (x2 < g) = false := decide_eq_false g1
        have Y := Lib.hid (YES.out ⟨by omega, by omega⟩)
        have cb := ce_bd g x1 o1 (by omega) (by omega)
        have ed : (g + x1 - 1).tdiv x1 = (g + x1 - 1) / x1 := Int.tdiv_eq_ediv_of_nonneg (by omega)
        have ed2 : g.tdiv x1 = g / x1 := Int.tdiv_eq_ediv_of_nonneg (by omega)
        have fd := ce_bd g x1 o1 (by omega) (by omega)
        have qd0 : 0 ≤ g / x1 := Int.ediv_nonneg (by omega) (by omega)
        have qd1 : g / x1 ≤ g := Int.ediv_le_self _ (by omega)
        obtain ⟨Q, hQ⟩ : ∃ Q, (g + x1 - 1) / x1 = Q := ⟨_, rfl⟩
        have hce : ce g x1 = Q - 1 := by unfold ce; rw [hQ]
        obtain ⟨Q2, hQ2⟩ : ∃ Q, g / x1 = Q := ⟨_, rfl⟩
        rw [hce] at cb e3
        rw [hQ2] at ed2 qd0 qd1 e4
        rw [hQ] at ed
        have cb0 : 0 ≤ Q := by omega
        have cb1 : Q ≤ 1099511627777 := by omega
        have wQ1 : wrap64 (Q - 1) = Q - 1 := by unfold wrap64; omega
        have wQ : IntKind.i64.wrap Q = Q := by rw [IntKind.wrap_i64]; omega
        have wQ2 : IntKind.i64.wrap Q2 = Q2 := by rw [IntKind.wrap_i64]; omega
        have zx : (x1 == 0) = false := beq_eq_false_iff_ne.2 (by omega)
        obtain ⟨L, hL⟩ : ∃ L, max lo (Q - 1) = L := ⟨_, rfl⟩
        have hLb : 0 ≤ L ∧ L ≤ 1099511627776 := by omega
        obtain ⟨L0, L1⟩ := hLb
        rw [hL] at e3
        have E1 := Lib.hid e1; have E2 := Lib.hid e2; have E3 := Lib.hid e3
        by_cases gl : g < x2
        · have d2 : decide (g < x2) = true := decide_eq_true gl
          rw [if_pos gl] at e4
          obtain ⟨H, hH⟩ : ∃ H, min hi Q2 = H := ⟨_, rfl⟩
          have hHb : 0 ≤ H ∧ H ≤ 1099511627776 := by omega
          obtain ⟨H0, H1⟩ := hHb
          rw [hH] at e4
          have E4 := Lib.hid e4
          clear NO YES e1 e2 e3 e4 hce cb fd
          go_wp2
          go_roundw
          case rel => exact ⟨k + 1, L, H, s + g, t + x2, by omega, by go_num, rfl, rfl, rfl, rfl, by omega, by omega, by omega, by omega, by omega, by omega, by omega, by omega, Lib.hid ⟨Y.out, E3.out, E4.out, E1.out, E2.out⟩, Lib.hid (hbe.out.alloc hbe.out.size _)⟩
          case measure => simp [intOf]; omega
        · have d2 : decide (g < x2) = false := decide_eq_false gl
          rw [if_neg gl] at e4
          have E4 := Lib.hid e4
          clear NO YES e1 e2 e3 e4 hce cb fd
          go_wp2
          go_roundw
          case rel => exact ⟨k + 1, L, hi, s + g, t + x2, by omega, by go_num, rfl, rfl, rfl, rfl, by omega, by omega, by omega, by omega, by omega, by omega, by omega, by omega, Lib.hid ⟨Y.out, E3.out, E4.out, E1.out, E2.out⟩, Lib.hid (hbe.out.alloc hbe.out.size _)⟩
          case measure => simp [intOf]; omega
      · have hkN : k = N := by omega
        obtain ⟨i1, i2, i3, i4, i5⟩ := hs.out
        have hend := exB_end (c := c) (l := l) (gs := gs) HL.out (by rw [HE.out, ← hkN]; exact i1)
        rw [HE.out, ← hkN, i2, i3] at hend
        rw [List.take_of_length_le (by rw [HL.out, HE.out]; omega)] at i4
        rw [List.take_of_length_le (by rw [HE.out]; omega)] at i5
        rw [i4, i5] at hend
        obtain ⟨T, hT⟩ : ∃ T, min c t = T := ⟨_, rfl⟩
        rw [hT] at hend
        clear i1 i2 i3 i4 i5 hs hkN
        by_cases p1 : s = T
        · have d1 : (s == T) = true := by rw [p1]; simp
          have d1' : decide (s = T) = true := decide_eq_true p1
          have HF := Lib.hid (hend.trans (show _ = decide (lo ≤ hi) from decide_eq_decide.mpr ⟨fun e => e.2, fun e => ⟨p1, e⟩⟩))
          clear p1 hend
          go_wp2
          go_ret
          exact ⟨ret_bool (by rw [HF.out]), hbe.out⟩
        · have d1 : (s == T) = false := beq_eq_false_iff_ne.2 p1
          have d1' : decide (s = T) = false := decide_eq_false p1
          have HF := Lib.hid (hend.trans (decide_eq_false fun e => p1 e.1))
          clear p1 hend
          go_wp2
          go_ret
          exact ⟨ret_bool (by rw [HF.out]), hbe.out⟩
  · have Y := Lib.hid (exB_len (c := c) hne)
    have t1 : ((gs.length : Int) != (l.length : Int)) = true := bne_iff_ne.2 (by omega)
    obtain ⟨n, hn⟩ : ∃ n, l.length = n := ⟨_, rfl⟩
    obtain ⟨m, hm'⟩ : ∃ m, gs.length = m := ⟨_, rfl⟩
    rw [hn] at hm t1 ⊢
    rw [hm'] at hgm t1 ⊢
    clear hn hm' hne hp hq
    go_enter Try.func18, Try.ntmps18
    go_wp2
    go_ret
    exact ⟨ret_bool Y.out.symm, Below.refl _ _⟩
end Go.Proofs.Ytjmegfejnocegaa
