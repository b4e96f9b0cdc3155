/- What a true clock shows, in every case, and by the document's own program. -/
import Derived.Test.YtnojnfmhinjcpaaJ2
import Derived.Test.YtnojnfmhinjcpaaN
namespace Go.Proofs.Ytnojnfmhinjcpaa
set_option linter.unusedVariables false
set_option linter.unusedSimpArgs false
open Go.RowKit
def showOk (base t : Int) (ps : List (Int × Int)) : Bool := decide (0 ≤ base ∧ base ≤ 1099511627776 ∧ 0 ≤ t ∧ t ≤ 1099511627776) && rightB ps
def showE (base t : Int) (ps : List (Int × Int)) : Int := if showOk base t ps then (if showT base t ps / 1000000 ≤ 2199023255552 then 0 else 2) else 1
def showN (base t : Int) (ps : List (Int × Int)) : Int := if showOk base t ps then (if showT base t ps / 1000000 ≤ 2199023255552 then showT base t ps / 1000000 else 0) else 0
set_option maxHeartbeats 1000000 in
theorem show_out (base t : Int) (a : Option Addr) (cap : Nat) (ps : List (Int × Int)) (w : World) (h : base < 0 ∨ 1099511627776 < base ∨ t < 0 ∨ 1099511627776 < t) :
    Calls Try.prog 35 #[.int .i64 base, .slice a ps.length cap, .int .i64 t] w fun e w' => e = .returned (.tuple #[.int .i64 0, .int .i64 1]) ∧ Below w.heap.size w w' := by
  by_cases c1 : base < 0
  · go_enter Try.func35, Try.ntmps35
    go_wp2
    go_ret2
    exact ⟨rfl, by (repeat' (first | (with_reducible exact Below.refl _ _) | (with_reducible assumption) | (with_reducible refine Below.alloc ?_ ?_ _) | (with_reducible refine Below.drew ?_) | (with_reducible refine below_dn ?_) | (with_reducible refine Below.setCell ?_ ?_ _) | (with_reducible exact Nat.le_refl _) | omega | (simp only [World.size_alloc, World.size_setCell, World.size_drew]; omega) | (simp; omega) | (simp; done)))⟩
  have c1' : 0 ≤ base := by omega
  by_cases c2 : 1099511627776 < base
  · clear h
    go_enter Try.func35, Try.ntmps35
    go_wp2
    go_ret2
    exact ⟨rfl, by (repeat' (first | (with_reducible exact Below.refl _ _) | (with_reducible assumption) | (with_reducible refine Below.alloc ?_ ?_ _) | (with_reducible refine Below.drew ?_) | (with_reducible refine below_dn ?_) | (with_reducible refine Below.setCell ?_ ?_ _) | (with_reducible exact Nat.le_refl _) | omega | (simp only [World.size_alloc, World.size_setCell, World.size_drew]; omega) | (simp; omega) | (simp; done)))⟩
  have c2' : base ≤ 1099511627776 := by omega
  by_cases c3 : t < 0
  · clear h
    go_enter Try.func35, Try.ntmps35
    go_wp2
    go_ret2
    exact ⟨rfl, by (repeat' (first | (with_reducible exact Below.refl _ _) | (with_reducible assumption) | (with_reducible refine Below.alloc ?_ ?_ _) | (with_reducible refine Below.drew ?_) | (with_reducible refine below_dn ?_) | (with_reducible refine Below.setCell ?_ ?_ _) | (with_reducible exact Nat.le_refl _) | omega | (simp only [World.size_alloc, World.size_setCell, World.size_drew]; omega) | (simp; omega) | (simp; done)))⟩
  have c3' : 0 ≤ t := by omega
  have c4 : 1099511627776 < t := by omega
  clear h
  go_enter Try.func35, Try.ntmps35
  go_wp2
  go_ret2
  exact ⟨rfl, by (repeat' (first | (with_reducible exact Below.refl _ _) | (with_reducible assumption) | (with_reducible refine Below.alloc ?_ ?_ _) | (with_reducible refine Below.drew ?_) | (with_reducible refine below_dn ?_) | (with_reducible refine Below.setCell ?_ ?_ _) | (with_reducible exact Nat.le_refl _) | omega | (simp only [World.size_alloc, World.size_setCell, World.size_drew]; omega) | (simp; omega) | (simp; done)))⟩
set_option maxHeartbeats 1000000 in
theorem show_wrong (base t : Int) (a : Option Addr) (cap : Nat) (ps : List (Int × Int)) (w : World) (hp : PacesA w a ps) (hm : ps.length ≤ 9223372036854775807)
    (h0 : 0 ≤ base) (h1 : base ≤ 1099511627776) (h2 : 0 ≤ t) (h3 : t ≤ 1099511627776) (hr : rightB ps = false) :
    Calls Try.prog 35 #[.int .i64 base, .slice a ps.length cap, .int .i64 t] w fun e w' => e = .returned (.tuple #[.int .i64 0, .int .i64 1]) ∧ Below w.heap.size w w' := by
  have HP := Lib.hid hp; clear hp
  have HR := Lib.hid hr; clear hr
  go_enter Try.func35, Try.ntmps35
  go_wp2_with fail
  refine (right_anyA ps a cap _ HP.out hm).mono ?_
  rintro e w1 ⟨rfl, hb1⟩
  rw [HR.out]
  have hs1 := hb1.size
  go_wp2
  go_ret2
  exact ⟨rfl, bt (by (repeat' (first | (with_reducible exact Below.refl _ _) | (with_reducible assumption) | (with_reducible refine Below.alloc ?_ ?_ _) | (with_reducible refine Below.drew ?_) | (with_reducible refine below_dn ?_) | (with_reducible refine Below.setCell ?_ ?_ _) | (with_reducible exact Nat.le_refl _) | omega | (simp only [World.size_alloc, World.size_setCell, World.size_drew]; omega) | (simp; omega) | (simp; done)))) hb1⟩
theorem show_fn (base t : Int) (a : Option Addr) (cap : Nat) (ps : List (Int × Int)) (w : World) (hp : PacesA w a ps) (hm : ps.length ≤ 9223372036854775807) :
    Calls Try.prog 35 #[.int .i64 base, .slice a ps.length cap, .int .i64 t] w fun e w' => e = .returned (.tuple #[.int .i64 (showN base t ps), .int .i64 (showE base t ps)]) ∧ Below w.heap.size w w' := by
  unfold showN showE showOk
  by_cases h : 0 ≤ base ∧ base ≤ 1099511627776 ∧ 0 ≤ t ∧ t ≤ 1099511627776
  · rw [decide_eq_true h, Bool.true_and]
    obtain ⟨h0, h1, h2, h3⟩ := h
    cases hr : rightB ps with
    | true =>
      by_cases hs : showT base t ps / 1000000 ≤ 2199023255552
      · simp only [if_pos hs, if_true]
        exact show_inA base t a cap ps w hp hm h0 h1 h2 h3 hr true (decide_eq_true hs)
      · simp only [if_neg hs, if_true]
        exact show_inA base t a cap ps w hp hm h0 h1 h2 h3 hr false (decide_eq_false hs)
    | false =>
      simp only [Bool.false_eq_true, if_false]
      exact show_wrong base t a cap ps w hp hm h0 h1 h2 h3 hr
  · rw [decide_eq_false h, Bool.false_and]
    simp only [Bool.false_eq_true, if_false]
    exact show_out base t a cap ps w (by omega)
/-- The parts and the rest, begun anywhere. -/
theorem run_shift (s z t : Int) (ps : List (Int × Int)) : run (s + z, t) ps = ((run (s, t) ps).1 + z, (run (s, t) ps).2) := by
  induction ps generalizing s t with
  | nil => rfl
  | cons p ps ih =>
    show run (adv (s + z, t) p) ps = ((run (adv (s, t) p) ps).1 + z, (run (adv (s, t) p) ps).2)
    have : adv (s + z, t) p = ((adv (s, t) p).1 + z, (adv (s, t) p).2) := by unfold adv; dsimp only; rw [Prod.mk.injEq]; omega
    rw [this]
    exact ih _ _
theorem showT_eq (base t : Int) (ps : List (Int × Int)) : showT base t ps = base * 1000000 + ((run (0, t) ps).1 + (run (0, t) ps).2 * 1000000) := by
  unfold showT
  have := run_shift 0 (base * 1000000) t ps
  rw [Int.zero_add] at this
  rw [this]
  simp only
  omega
abbrev shn (n e : Int) : Value := .agg #[.int .i64 n, .int .i64 e]
theorem ret_shn {a b : Int} {e : Value} (h : a = b) : Ending.returned (.agg #[.int .i64 a, e]) = .returned (.agg #[.int .i64 b, e]) := by rw [h]
set_option maxHeartbeats 1000000 in
theorem showref_bad (base t : Int) (a : Option Addr) (cap : Nat) (ps : List (Int × Int)) (w : World) (hp : PacesA w a ps) (hm : ps.length ≤ 9223372036854775807) (h : showOk base t ps = false) :
    Calls Try.prog 36 #[.int .i64 base, .slice a ps.length cap, .int .i64 t] w fun e w' => e = .returned (shn 0 1) ∧ Below w.heap.size w w' := by
  have HP := Lib.hid hp; clear hp
  obtain ⟨r, hr⟩ : ∃ r, rightB ps = r := ⟨_, rfl⟩
  have HR : Hid (rightD ps 100000 = r) := by show _ = _; rw [right_same]; exact hr
  unfold showOk at h
  rw [hr] at h
  clear hr
  obtain ⟨i1, hi1⟩ : ∃ i, instB base = i := ⟨_, rfl⟩
  obtain ⟨i2, hi2⟩ : ∃ i, instB t = i := ⟨_, rfl⟩
  have e : (i1 && i2 && r) = false := by
    rw [← hi1, ← hi2, ← h]; unfold instB
    congr 1
    rw [← Bool.decide_and]
    apply decide_eq_decide.mpr
    omega
  have HI1 := Lib.hid hi1; have HI2 := Lib.hid hi2
  clear hi1 hi2 h
  go_enter Try.func36, Try.ntmps36
  go_wp2_with fail
  refine (rightref_any ps a cap 100000 _ (by omega) (by omega) (HP.out.mono (by (repeat' (first | (with_reducible exact Below.refl _ _) | (with_reducible assumption) | (with_reducible refine Below.alloc ?_ ?_ _) | (with_reducible refine Below.drew ?_) | (with_reducible refine below_dn ?_) | (with_reducible refine Below.setCell ?_ ?_ _) | (with_reducible exact Nat.le_refl _) | omega | (simp only [World.size_alloc, World.size_setCell, World.size_drew]; omega) | (simp; omega) | (simp; done))))) hm).mono ?_
  rintro e w1 ⟨rfl, rfl⟩
  rw [HR.out]
  clear HR
  cases i1 <;> cases i2 <;> cases r <;> simp at e
  all_goals
    go_wp2_with (first | (go_at_call 30; ((with_reducible refine (instant_any base _).mono ?_); rintro e w1 ⟨rfl, rfl⟩; rw [HI1.out])) | (go_at_call 30; refine (instant_any t _).mono ?_; rintro e w1 ⟨rfl, rfl⟩; rw [HI2.out]))
    refine bodyPost_ret (v := shn 0 1) (by simp [results, Try.results36, go_sem]; try rfl) rfl ⟨rfl, by (repeat' (first | (with_reducible exact Below.refl _ _) | (with_reducible assumption) | (with_reducible refine Below.alloc ?_ ?_ _) | (with_reducible refine Below.drew ?_) | (with_reducible refine below_dn ?_) | (with_reducible refine Below.setCell ?_ ?_ _) | (with_reducible exact Nat.le_refl _) | omega | (simp only [World.size_alloc, World.size_setCell, World.size_drew]; omega) | (simp; omega) | (simp; done)))⟩
set_option maxRecDepth 100000 in
set_option maxHeartbeats 2000000 in
theorem showref_in (base t : Int) (a : Option Addr) (cap : Nat) (ps : List (Int × Int)) (w : World) (hp : PacesA w a ps) (hm : ps.length ≤ 9223372036854775807)
    (h0 : 0 ≤ base) (h1 : base ≤ 1099511627776) (h2 : 0 ≤ t) (h3 : t ≤ 1099511627776) (hr : rightB ps = true) (small : Bool) (hsm : decide (showT base t ps / 1000000 ≤ 2199023255552) = small) :
    Calls Try.prog 36 #[.int .i64 base, .slice a ps.length cap, .int .i64 t] w fun e w' => e = .returned (if small then shn (showT base t ps / 1000000) 0 else shn 0 2) ∧ Below w.heap.size w w' := by
  have HP := Lib.hid hp; clear hp
  have HR : Hid (rightD ps 100000 = true) := by show _ = _; rw [right_same]; exact hr
  have hall : ps.all okPace = true := by unfold rightB at hr; simp only [Bool.and_eq_true] at hr; exact hr.1
  have HA := Lib.hid hall
  have HSM := Lib.hid hsm
  have HI1 := Lib.hid (show instB base = true by unfold instB; exact decide_eq_true ⟨h0, h1⟩)
  have HI2 := Lib.hid (show instB t = true by unfold instB; exact decide_eq_true ⟨h2, h3⟩)
  have HT := Lib.hid (showT_eq base t ps)
  clear hr hall hsm
  go_enter Try.func36, Try.ntmps36
  go_wp2_with fail
  refine (rightref_any ps a cap 100000 _ (by omega) (by omega) (HP.out.mono (by (repeat' (first | (with_reducible exact Below.refl _ _) | (with_reducible assumption) | (with_reducible refine Below.alloc ?_ ?_ _) | (with_reducible refine Below.drew ?_) | (with_reducible refine below_dn ?_) | (with_reducible refine Below.setCell ?_ ?_ _) | (with_reducible exact Nat.le_refl _) | omega | (simp only [World.size_alloc, World.size_setCell, World.size_drew]; omega) | (simp; omega) | (simp; done))))) hm).mono ?_
  rintro e w1 ⟨rfl, rfl⟩
  rw [HR.out]
  go_wp2_with (first | (go_at_call 30; ((with_reducible refine (instant_any base _).mono ?_); rintro e w1 ⟨rfl, rfl⟩; rw [HI1.out])) | (go_at_call 30; refine (instant_any t _).mono ?_; rintro e w1 ⟨rfl, rfl⟩; rw [HI2.out]))
  go_loop [2, 8, 9] (fun tt pp i => ∃ (k : Nat) (u v : Int), k ≤ ps.length ∧ i = .int .i64 k ∧ tt = .int .i64 v ∧ pp = .int .i64 u ∧ Hid (run (0, t) (ps.take k) = (u, v))) (fun _ _ i => ps.length - (intOf i).toNat)
  case atStart => exact ⟨0, 0, t, by omega, rfl, rfl, rfl, rfl⟩
  case round =>
    obtain ⟨k, u, v, hk, rfl, rfl, rfl, hrun⟩ := hrel
    obtain ⟨g1, g2, g3, g4⟩ := run_bd ps 0 t (by omega) h2 (by omega) HA.out k
    rw [hrun.out] at g1 g2 g3 g4
    simp only at g1 g2 g3 g4
    by_cases hlt : k < ps.length
    · obtain ⟨x, y, hxy⟩ : ∃ x y, ps.getD k (0, 0) = (x, y) := ⟨_, _, rfl⟩
      obtain ⟨b, off, rfl, hh⟩ := HP.out k hlt
      have hop : okPace (ps.getD k (0, 0)) = true := by
        have := HA.out
        rw [List.all_eq_true] at this
        rw [List.getD_eq_getElem?_getD, List.getElem?_eq_getElem hlt]
        exact this _ (List.getElem_mem hlt)
      rw [hxy] at hh hop
      simp only [okPace, decide_eq_true_eq] at hop
      obtain ⟨o1, o2, o3, o4⟩ := hop
      obtain ⟨q1, q2⟩ := hh
      have zb := block_lt_of_cell q1
      simp only at zb
      have hstep := run_take (0, t) ps k hlt
      rw [hxy, hrun.out] at hstep
      have HX := Lib.hid hxy; clear hxy
      by_cases hv : v < x
      · have HST : Hid (run (0, t) (ps.take (k + 1)) = (u + v * (1000000 + y), v - v)) := by show _ = _; rw [hstep]; unfold adv; simp only [show min x v = v by omega]
        obtain ⟨b1, b2⟩ := prod_bd v y (by omega) o3 o4
        clear hstep
        go_wp2
        go_round
        case rel => exact ⟨k + 1, u + v * (1000000 + y), v - v, by omega, by go_num, by first | rfl | go_num, rfl, HST⟩
        case measure => simp [intOf]; omega
      · have HST : Hid (run (0, t) (ps.take (k + 1)) = (u + x * (1000000 + y), v - x)) := by show _ = _; rw [hstep]; unfold adv; simp only [show min x v = x by omega]
        obtain ⟨b1, b2⟩ := prod_bd x y (by omega) o3 o4
        have b3 : x * 1100000 ≤ v * 1100000 := by omega
        clear hstep
        go_wp2
        go_round
        case rel => exact ⟨k + 1, u + x * (1000000 + y), v - x, by omega, by go_num, rfl, rfl, HST⟩
        case measure => simp [intOf]; omega
    · obtain rfl : k = ps.length := by omega
      have hr := hrun.out
      rw [List.take_length] at hr
      have HE : Hid (showT base t ps / 1000000 = base + (u + v * 1000000) / 1000000) := by
        show _ = _
        rw [HT.out, hr, Int.add_comm (base * 1000000), Int.add_mul_ediv_right _ _ (by omega)]
        simp only
        omega
      clear hr
      cases small
      · have hs := of_decide_eq_false HSM.out
        rw [HE.out] at hs
        have hs' : 2199023255552 < base + (u + v * 1000000) / 1000000 := by omega
        clear hs
        go_wp2
        refine bodyPost_ret (v := shn 0 2) (by simp [results, Try.results36, go_sem]; try rfl) rfl ⟨rfl, by (repeat' (first | (with_reducible exact Below.refl _ _) | (with_reducible assumption) | (with_reducible refine Below.alloc ?_ ?_ _) | (with_reducible refine Below.drew ?_) | (with_reducible refine below_dn ?_) | (with_reducible refine Below.setCell ?_ ?_ _) | (with_reducible exact Nat.le_refl _) | omega | (simp only [World.size_alloc, World.size_setCell, World.size_drew]; omega) | (simp; omega) | (simp; done)))⟩
      · have hs := of_decide_eq_true HSM.out
        rw [HE.out] at hs
        go_wp2
        refine bodyPost_ret (v := shn (base + (u + v * 1000000) / 1000000) 0) (by simp [results, Try.results36, go_sem]; try rfl) rfl ⟨ret_shn HE.out.symm, by (repeat' (first | (with_reducible exact Below.refl _ _) | (with_reducible assumption) | (with_reducible refine Below.alloc ?_ ?_ _) | (with_reducible refine Below.drew ?_) | (with_reducible refine below_dn ?_) | (with_reducible refine Below.setCell ?_ ?_ _) | (with_reducible exact Nat.le_refl _) | omega | (simp only [World.size_alloc, World.size_setCell, World.size_drew]; omega) | (simp; omega) | (simp; done)))⟩
theorem showref_fn (base t : Int) (a : Option Addr) (cap : Nat) (ps : List (Int × Int)) (w : World) (hp : PacesA w a ps) (hm : ps.length ≤ 9223372036854775807) :
    Calls Try.prog 36 #[.int .i64 base, .slice a ps.length cap, .int .i64 t] w fun e w' => e = .returned (shn (showN base t ps) (showE base t ps)) ∧ Below w.heap.size w w' := by
  cases hk : showOk base t ps with
  | false =>
    unfold showN showE
    rw [hk]
    exact showref_bad base t a cap ps w hp hm hk
  | true =>
    have h := hk
    unfold showN showE
    rw [hk]
    unfold showOk at h
    simp only [Bool.and_eq_true, decide_eq_true_eq] at h
    obtain ⟨⟨h0, h1, h2, h3⟩, hr⟩ := h
    by_cases hs : showT base t ps / 1000000 ≤ 2199023255552
    · simp only [if_pos hs, if_true]
      exact showref_in base t a cap ps w hp hm h0 h1 h2 h3 hr true (decide_eq_true hs)
    · simp only [if_neg hs, if_true]
      exact showref_in base t a cap ps w hp hm h0 h1 h2 h3 hr false (decide_eq_false hs)
end Go.Proofs.Ytnojnfmhinjcpaa
