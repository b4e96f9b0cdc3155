/- Contracts: Valid of both; lists of numbers compared. -/
import Derived.Test.YtjmegfejnocegaaB
namespace Go.Proofs.Ytjmegfejnocegaa
set_option linter.unusedVariables false
set_option linter.unusedSimpArgs false
open Go.RowKit
/-- Are shares valid? -/
def vS (l : List Sh) : Bool := decide ((∀ s ∈ l, okS s) ∧ l.length ≤ 1000)
theorem vS_iff (l : List Sh) : vS l = true ↔ OkS l ∧ l.length ≤ 1000 := by unfold vS OkS; exact decide_eq_true_iff
theorem vS_no {l : List Sh} {k : Nat} (hk : k < l.length) (h : ¬ okS (l.getD k (0, 0))) : vS l = false := by
  unfold vS
  exact decide_eq_false fun q => h (OkS.at_ q.1 hk)
theorem vS_end {l : List Sh} (h : ∀ j, j < l.length → okS (l.getD j (0, 0))) : vS l = decide ((l.length : Int) ≤ 1000) := by
  unfold vS
  apply decide_eq_decide.mpr
  constructor
  · rintro ⟨-, q⟩; omega
  · intro q
    refine ⟨fun s hs => ?_, by omega⟩
    obtain ⟨j, hj, rfl⟩ := List.getElem_of_mem hs
    have := h j hj
    rwa [getD_at (0, 0) hj] at this
theorem okS_split {x1 x2 : Int} : okS (x1, x2) ↔ (1 ≤ x1 ∧ x1 ≤ 1048576) ∧ (0 ≤ x2 ∧ x2 ≤ 1099511627776) := by unfold okS; simp only; omega
set_option maxHeartbeats 400000 in
theorem valid_any (a : Option Addr) (cap : Nat) (l : List Sh) (w : World) (hp : ShA w a l) (hm : l.length ≤ 9223372036854775807) :
    Calls Try.prog 10 #[.slice a l.length cap] w fun e w' => e = .returned (.bool (vS l)) ∧ Below w.heap.size w w' := by
  obtain ⟨N, hN⟩ : ∃ N, l.length = N := ⟨_, rfl⟩
  have HE := Lib.hid hN; have HP := Lib.hid hp
  rw [hN] at hm ⊢
  clear hp hN
  go_enter Try.func10, Try.ntmps10
  go_wp2
  go_loopw [4, 7] (fun _ u7 wr => ∃ (k : Nat), k ≤ N ∧ u7 = .int .i64 k ∧ Hid (∀ j, j < k → okS (l.getD j (0, 0))) ∧ Hid (Below w.heap.size w wr)) (fun _ u7 _ => N - (intOf u7).toNat)
  case atStart => exact ⟨0, by omega, rfl, Lib.hid (fun j hj => absurd hj (by omega)), Lib.hid (Below.refl _ _)⟩
  case round =>
    obtain ⟨k, hk, rfl, hs, hbe⟩ := hrel
    by_cases hlt : k < N
    · obtain ⟨b, off, rfl, q0, q1⟩ := ShA.at_ (HP.out.mono hbe.out) (k := k) (by rw [HE.out]; exact hlt)
      have NO := Lib.hid (fun h => vS_no (l := l) (k := k) (by rw [HE.out]; exact hlt) h)
      have YES := Lib.hid (show okS (l.getD k (0, 0)) → ∀ j, j < k + 1 → okS (l.getD j (0, 0)) from fun h1 j hj => by
        rcases Nat.lt_or_ge j k with h | h
        · exact hs.out j h
        · rw [show j = k by omega]; exact h1)
      obtain ⟨x, hx⟩ : ∃ x, l.getD k (0, 0) = x := ⟨_, rfl⟩
      rw [hx] at q0 q1 NO YES
      obtain ⟨x1, x2⟩ := x
      simp only at q0 q1
      clear hx hs
      have CW := Lib.hid (fun W => isWeight_any x1 W)
      have CV := Lib.hid (fun W => isVolume_any x2 W)
      by_cases pw : 1 ≤ x1 ∧ x1 ≤ 1048576
      · rw [decide_eq_true pw] at CW
        by_cases pv : 0 ≤ x2 ∧ x2 ≤ 1099511627776
        · rw [decide_eq_true pv] at CV
          have Y := Lib.hid (YES.out (okS_split.2 ⟨pw, pv⟩))
          clear pw pv
          go_wp2_with fail
          refine (CW.out _).mono ?_
          rintro e w1 ⟨rfl, rfl⟩
          go_wp2_with fail
          refine (CV.out _).mono ?_
          rintro e w1 ⟨rfl, rfl⟩
          go_wp2
          go_roundw
          case rel => exact ⟨k + 1, by omega, by go_num, Y, Lib.hid (hbe.out.alloc hbe.out.size _)⟩
          case measure => simp [intOf]; omega
        · rw [decide_eq_false pv] at CV
          have Y := Lib.hid (NO.out (fun q => pv (okS_split.1 q).2))
          clear pw pv
          go_wp2_with fail
          refine (CW.out _).mono ?_
          rintro e w1 ⟨rfl, rfl⟩
          go_wp2_with fail
          refine (CV.out _).mono ?_
          rintro e w1 ⟨rfl, rfl⟩
          go_wp2
          go_ret
          exact ⟨ret_bool Y.out.symm, hbe.out.alloc hbe.out.size _⟩
      · rw [decide_eq_false pw] at CW
        have Y := Lib.hid (NO.out (fun q => pw (okS_split.1 q).1))
        clear pw
        go_wp2_with fail
        refine (CW.out _).mono ?_
        rintro e w1 ⟨rfl, rfl⟩
        go_wp2
        go_ret
        exact ⟨ret_bool Y.out.symm, hbe.out.alloc hbe.out.size _⟩
    · have HF := Lib.hid (vS_end (l := l) (fun j hj => hs.out j (by rw [HE.out] at hj; omega)))
      clear hs
      go_wp2
      go_ret
      exact ⟨ret_bool (by rw [HF.out, HE.out]; try rfl), hbe.out⟩
set_option maxHeartbeats 400000 in
theorem validref_any (a : Option Addr) (cap : Nat) (l : List Sh) (w : World) (hp : ShA w a l) (hm : l.length ≤ 9223372036854775807) :
    Calls Try.prog 11 #[.slice a l.length cap] w fun e w' => e = .returned (.bool (vS l)) ∧ Below w.heap.size w w' := by
  obtain ⟨N, hN⟩ : ∃ N, l.length = N := ⟨_, rfl⟩
  have HE := Lib.hid hN; have HP := Lib.hid hp
  rw [hN] at hm ⊢
  clear hp hN
  go_enter Try.func11, Try.ntmps11
  go_wp2
  go_loopw [3] (fun u3 wr => ∃ (k : Nat), k ≤ N ∧ u3 = .int .i64 k ∧ Hid (∀ j, j < k → okS (l.getD j (0, 0))) ∧ Hid (Below w.heap.size w wr)) (fun u3 _ => N - (intOf u3).toNat)
  case atStart => exact ⟨0, by omega, rfl, Lib.hid (fun j hj => absurd hj (by omega)), Lib.hid (Below.refl _ _)⟩
  case round =>
    obtain ⟨k, hk, rfl, hs, hbe⟩ := hrel
    by_cases hlt : k < N
    · obtain ⟨b, off, rfl, q0, q1⟩ := ShA.at_ (HP.out.mono hbe.out) (k := k) (by rw [HE.out]; exact hlt)
      have NO := Lib.hid (fun h => vS_no (l := l) (k := k) (by rw [HE.out]; exact hlt) h)
      have YES := Lib.hid (show okS (l.getD k (0, 0)) → ∀ j, j < k + 1 → okS (l.getD j (0, 0)) from fun h1 j hj => by
        rcases Nat.lt_or_ge j k with h | h
        · exact hs.out j h
        · rw [show j = k by omega]; exact h1)
      obtain ⟨x, hx⟩ : ∃ x, l.getD k (0, 0) = x := ⟨_, rfl⟩
      rw [hx] at q0 q1 NO YES
      obtain ⟨x1, x2⟩ := x
      simp only at q0 q1
      clear hx hs
      by_cases p : okS (x1, x2)
      · have Y := Lib.hid (YES.out p)
        obtain ⟨⟨p1, p2⟩, p3, p4⟩ := okS_split.1 p
        have d1 : decide (x1 < 1) = false := decide_eq_false (by omega)
        have d2 : decide (1048576 < x1) = false := decide_eq_false (by omega)
        have d3 : decide (x2 < 0) = false := decide_eq_false (by omega)
        have d4 : decide (1099511627776 < x2) = false := decide_eq_false (by omega)
        clear p
        go_wp2
        go_roundw
        case rel => exact ⟨k + 1, by omega, by go_num, Y, Lib.hid (hbe.out)⟩
        case measure => simp [intOf]; omega
      · have Y := Lib.hid (NO.out p)
        have P := Lib.hid p
        clear p
        by_cases p1 : x1 < 1
        · have d1 : decide (x1 < 1) = true := decide_eq_true p1
          go_wp2
          go_ret
          exact ⟨ret_bool Y.out.symm, hbe.out⟩
        have d1 : decide (x1 < 1) = false := decide_eq_false p1
        by_cases p2 : 1048576 < x1
        · have d2 : decide (1048576 < x1) = true := decide_eq_true p2
          go_wp2
          go_ret
          exact ⟨ret_bool Y.out.symm, hbe.out⟩
        have d2 : decide (1048576 < x1) = false := decide_eq_false p2
        by_cases p3 : x2 < 0
        · have d3 : decide (x2 < 0) = true := decide_eq_true p3
          go_wp2
          go_ret
          exact ⟨ret_bool Y.out.symm, hbe.out⟩
        have d3 : decide (x2 < 0) = false := decide_eq_false p3
        have p4 : 1099511627776 < x2 := by
          rcases Int.lt_or_le 1099511627776 x2 with h | h
          · exact h
          · exact absurd (okS_split.2 ⟨⟨by omega, by omega⟩, by omega, h⟩) P.out
        have d4 : decide (1099511627776 < x2) = true := decide_eq_true p4
        go_wp2
        go_ret
        exact ⟨ret_bool Y.out.symm, hbe.out⟩
    · have HF := Lib.hid (vS_end (l := l) (fun j hj => hs.out j (by rw [HE.out] at hj; omega)))
      clear hs
      go_wp2
      go_ret
      exact ⟨ret_bool (by rw [HF.out, HE.out]; try rfl), hbe.out⟩
/-- Are two lists the same? -/
def eqI (x y : List Int) : Bool := decide (x = y)
theorem eqI_self (x : List Int) : eqI x x = true := decide_eq_true rfl
theorem eqI_no {x y : List Int} {k : Nat} (h : x.getD k 0 ≠ y.getD k 0) : eqI x y = false := decide_eq_false fun e => h (by rw [e])
theorem eqI_len {x y : List Int} (h : x.length ≠ y.length) : eqI x y = false := decide_eq_false fun e => h (by rw [e])
theorem eqI_end {x y : List Int} (hl : y.length = x.length) (h : ∀ j, j < x.length → x.getD j 0 = y.getD j 0) : eqI x y = true := by
  refine decide_eq_true (List.ext_getElem hl.symm fun j h1 h2 => ?_)
  have := h j h1
  rwa [getD_at 0 h1, getD_at 0 h2] at this
set_option maxHeartbeats 400000 in
theorem same_any (a1 a2 : Option Addr) (c1 c2 : Nat) (x y : List Int) (w : World) (hp1 : IntsA w a1 x) (hp2 : IntsA w a2 y) (hm : x.length ≤ 1000000) (hm2 : y.length ≤ 9223372036854775807) :
    Calls Try.prog 15 #[.slice a1 x.length c1, .slice a2 y.length c2] w fun e w' => e = .returned (.bool (eqI x y)) ∧ Below w.heap.size w w' := by
  by_cases hne : y.length = x.length
  · rw [hne]
    have HP := Lib.hid hp1
    have HQ := Lib.hid hp2
    have HL := Lib.hid hne
    obtain ⟨n, hn⟩ : ∃ n, x.length = n := ⟨_, rfl⟩
    have HE := Lib.hid hn
    rw [hn] at hm ⊢
    have t1 : ((n : Int) != n) = false := by simp
    clear hp1 hp2 hn hne hm2
    go_enter Try.func15, Try.ntmps15
    go_wp2
    go_loopw [5] (fun u5 wr => ∃ k : Nat, k ≤ n ∧ u5 = .int .i64 k ∧ Hid (∀ j, j < k → x.getD j 0 = y.getD j 0) ∧ Hid (Below w.heap.size w wr)) (fun u5 _ => n - (intOf u5).toNat)
    case atStart => exact ⟨0, by omega, rfl, Lib.hid (fun j hj => absurd hj (by omega)), Lib.hid (Below.refl _ _)⟩
    case round =>
      obtain ⟨k, hk, rfl, hs, BB⟩ := hrel
      by_cases hlt : k < n
      · obtain ⟨b1, f1, rfl, q1⟩ := HP.out.mono BB.out k (by rw [HE.out]; exact hlt)
        obtain ⟨b2, f2, rfl, q2⟩ := HQ.out.mono BB.out k (by rw [HL.out, HE.out]; exact hlt)
        by_cases heq : x.getD k 0 = y.getD k 0
        · have Y := Lib.hid (show ∀ j, j < k + 1 → x.getD j 0 = y.getD j 0 from fun j hj => by
            rcases Nat.lt_or_ge j k with h | h
            · exact hs.out j h
            · rw [show j = k by omega]; exact heq)
          obtain ⟨u, hu⟩ : ∃ u, x.getD k 0 = u := ⟨_, rfl⟩
          rw [← heq] at q2
          rw [hu] at q1 q2
          have t2 : (u != u) = false := by simp
          clear hu heq hs
          go_wp2
          go_quiet (fail)
          go_wp2
          go_roundw
          case rel => exact ⟨k + 1, by omega, by go_num, Y, Lib.hid (below_dn BB.out)⟩
          case measure => simp [intOf]; omega
        · have Y := Lib.hid (eqI_no heq)
          obtain ⟨u, hu⟩ : ∃ u, x.getD k 0 = u := ⟨_, rfl⟩
          obtain ⟨v, hv⟩ : ∃ v, y.getD k 0 = v := ⟨_, rfl⟩
          rw [hu] at q1 heq
          rw [hv] at q2 heq
          have t2 : (u != v) = true := bne_iff_ne.2 heq
          clear hu hv heq hs
          go_wp2
          go_quiet (fail)
          go_wp2
          go_ret
          exact ⟨ret_bool Y.out.symm, below_dn BB.out⟩
      · have Y := Lib.hid (eqI_end HL.out (fun j hj => hs.out j (by rw [HE.out] at hj; omega)))
        clear hs
        go_wp2
        go_ret
        exact ⟨ret_bool Y.out.symm, BB.out⟩
  · have Y := Lib.hid (eqI_len (x := x) (y := y) (fun e => hne e.symm))
    have t1 : ((x.length : Int) != (y.length : Int)) = true := bne_iff_ne.2 (by omega)
    obtain ⟨n, hn⟩ : ∃ n, x.length = n := ⟨_, rfl⟩
    obtain ⟨m, hm'⟩ : ∃ m, y.length = m := ⟨_, rfl⟩
    rw [hn] at hm t1 ⊢
    rw [hm'] at hm2 t1 ⊢
    clear hn hm' hne hp1 hp2
    go_enter Try.func15, Try.ntmps15
    go_wp2
    go_ret
    exact ⟨ret_bool Y.out.symm, Below.refl _ _⟩
end Go.Proofs.Ytjmegfejnocegaa
