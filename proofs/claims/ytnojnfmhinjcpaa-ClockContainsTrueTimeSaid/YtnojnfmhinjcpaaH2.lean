import Derived.Test.YtnojnfmhinjcpaaH
import Derived.OpenShut
namespace Go.Proofs.Ytnojnfmhinjcpaa
set_option linter.unusedVariables false
set_option linter.unusedSimpArgs false
open Go.RowKit
/-- A slice of paces in memory, nil included. -/
def PacesA (W : World) (a : Option Addr) (ps : List (Int × Int)) : Prop :=
  ∀ k, k < ps.length → ∃ b off, a = some ⟨b, off, none⟩ ∧ W.cell? ⟨b, off + k * 2, none⟩ = some (.int .i64 (ps.getD k (0, 0)).1) ∧ W.cell? ⟨b, off + k * 2 + 1, none⟩ = some (.int .i64 (ps.getD k (0, 0)).2)
theorem PacesA.mono {W W' : World} {a : Option Addr} {ps : List (Int × Int)} (h : PacesA W a ps) (hb : Below W.heap.size W W') : PacesA W' a ps := by
  intro k hk
  obtain ⟨b, off, e, h1, h2⟩ := h k hk
  refine ⟨b, off, e, ?_, ?_⟩
  · rw [hb.cell (p := ⟨b, off + k * 2, none⟩) (block_lt_of_cell h1)]; exact h1
  · rw [hb.cell (p := ⟨b, off + k * 2 + 1, none⟩) (block_lt_of_cell h2)]; exact h2
set_option maxHeartbeats 1000000 in
theorem right_anyA (ps : List (Int × Int)) (a : Option Addr) (cap : Nat) (w : World) (hp : PacesA w a ps) (hm : ps.length ≤ 9223372036854775807) :
    Calls Try.prog 45 #[.slice a ps.length cap] w fun e w' => e = .returned (.bool (rightB ps)) ∧ Below w.heap.size w w' := by
  have HP := Lib.hid hp; clear hp
  go_enter Try.func45, Try.ntmps45
  go_wp2
  go_loopw [7] (fun i wr => ∃ k : Nat, k ≤ ps.length ∧ i = .int .i64 k ∧ Below w.heap.size w wr ∧ Hid ((ps.take k).all okPace = true)) (fun i _ => ps.length - (intOf i).toNat)
  case atStart => exact ⟨0, by omega, rfl, Below.refl _ _, by simp [Hid]⟩
  case round =>
    obtain ⟨k, hk, rfl, hB, hall⟩ := hrel
    have hBs := hB.size
    by_cases hlt : k < ps.length
    · obtain ⟨x, y, hxy⟩ : ∃ x y, ps.getD k (0, 0) = (x, y) := ⟨_, _, rfl⟩
      obtain ⟨b, off, rfl, hh⟩ := HP.out k hlt
      rw [hxy] at hh
      obtain ⟨q1, q2⟩ := hh
      have g1 : wr.cell? ⟨b, off + k * 2, none⟩ = some (.int .i64 x) := by rw [hB.cell (p := ⟨b, off + k * 2, none⟩) (block_lt_of_cell q1)]; exact q1
      have g2 : wr.cell? ⟨b, off + k * 2 + 1, none⟩ = some (.int .i64 y) := by rw [hB.cell (p := ⟨b, off + k * 2 + 1, none⟩) (block_lt_of_cell q2)]; exact q2
      clear q1 q2
      have HX := Lib.hid hxy; clear hxy
      by_cases hok : 0 ≤ x ∧ x ≤ 1099511627776 ∧ -100000 ≤ y ∧ y ≤ 100000
      · have HS : Hid (okPace (ps.getD k (0, 0)) = true) := by rw [HX.out]; exact decide_eq_true hok
        obtain ⟨o1, o2, o3, o4⟩ := hok
        go_wp2
        go_roundw
        case rel => exact ⟨k + 1, by omega, by go_num, by (repeat' (first | (with_reducible exact Below.refl _ _) | (with_reducible assumption) | (with_reducible refine Below.alloc ?_ ?_ _) | (with_reducible refine Below.drew ?_) | (with_reducible refine below_dn ?_) | (with_reducible refine Below.setCell ?_ ?_ _) | (with_reducible exact Nat.le_refl _) | omega | (simp only [World.size_alloc, World.size_setCell, World.size_drew]; omega) | (simp; omega) | (simp; done))), by show _ = _; rw [all_take_succ okPace ps k (0, 0) hlt, hall.out, HS.out]; rfl⟩
        case measure => simp [intOf]; omega
      · have HS : Hid (rightB ps = false) := by
          have : okPace (ps.getD k (0, 0)) = false := by rw [HX.out]; exact decide_eq_false hok
          unfold rightB; show _ = _; rw [all_false okPace ps k (0, 0) hlt this]; rfl
        have HO := Lib.hid hok; clear hok
        go_wp2
        all_goals first
          | (go_ret; exact ⟨ret_bool HS.out.symm, by (repeat' (first | (with_reducible exact Below.refl _ _) | (with_reducible assumption) | (with_reducible refine Below.alloc ?_ ?_ _) | (with_reducible refine Below.drew ?_) | (with_reducible refine below_dn ?_) | (with_reducible refine Below.setCell ?_ ?_ _) | (with_reducible exact Nat.le_refl _) | omega | (simp only [World.size_alloc, World.size_setCell, World.size_drew]; omega) | (simp; omega) | (simp; done)))⟩)
          | (exfalso; have := HO.out; omega)
    · obtain rfl : k = ps.length := by omega
      have HS : Hid (rightB ps = decide (ps.length ≤ 100)) := by
        have := hall.out; rw [List.take_length] at this
        unfold rightB; show _ = _; rw [this]; rfl
      go_wp2
      go_ret
      exact ⟨ret_bool (by rw [HS.out]; apply decide_eq_decide.mpr; omega), hB⟩

/-- Paces within a drift, for the document's two ways of saying it. -/
def within (d : Int) (p : Int × Int) : Bool := decide (0 ≤ p.1 ∧ p.1 ≤ 1099511627776 ∧ p.2 ≤ d ∧ -d ≤ p.2)
def rightD (ps : List (Int × Int)) (d : Int) : Bool := ps.all (within d) && decide (ps.length ≤ 100)
set_option maxHeartbeats 1000000 in
theorem rightref_any (ps : List (Int × Int)) (a : Option Addr) (cap : Nat) (d : Int) (w : World) (hd0 : 0 ≤ d) (hd1 : d ≤ 1000000) (hp : PacesA w a ps) (hm : ps.length ≤ 9223372036854775807) :
    Calls Try.prog 47 #[.slice a ps.length cap, .int .i64 d] w fun e w' => e = .returned (.bool (rightD ps d)) ∧ w = w' := by
  have HP := Lib.hid hp; clear hp
  by_cases h100 : 100 < ps.length
  · have HS : Hid (rightD ps d = false) := by unfold rightD; show _ = _; rw [decide_eq_false (by omega), Bool.and_false]
    go_enter Try.func47, Try.ntmps47
    go_wp2
    go_ret
    exact ⟨ret_bool HS.out.symm, rfl⟩
  · go_enter Try.func47, Try.ntmps47
    go_wp2
    go_loop [5] (fun i => ∃ k : Nat, k ≤ ps.length ∧ i = .int .i64 k ∧ Hid ((ps.take k).all (within d) = true)) (fun i => ps.length - (intOf i).toNat)
    case atStart => exact ⟨0, by omega, rfl, by simp [Hid]⟩
    case round =>
      obtain ⟨k, hk, rfl, hall⟩ := hrel
      by_cases hlt : k < ps.length
      · obtain ⟨x, y, hxy⟩ : ∃ x y, ps.getD k (0, 0) = (x, y) := ⟨_, _, rfl⟩
        obtain ⟨b, off, rfl, hh⟩ := HP.out k hlt
        rw [hxy] at hh
        obtain ⟨q1, q2⟩ := hh
        have HX := Lib.hid hxy; clear hxy
        by_cases hi : instB x = true
        · have HI := Lib.hid hi
          have hi' : 0 ≤ x ∧ x ≤ 1099511627776 := by simpa [instB] using hi
          clear hi
          obtain ⟨o1, o2⟩ := hi'
          by_cases hok : y ≤ d ∧ -d ≤ y
          · have HS : Hid (within d (ps.getD k (0, 0)) = true) := by rw [HX.out]; exact decide_eq_true ⟨o1, o2, hok.1, hok.2⟩
            obtain ⟨o3, o4⟩ := hok
            go_wp2_with (go_at_call 30; refine (instant_any _ _).mono ?_; rintro e w1 ⟨rfl, rfl⟩; rw [HI.out])
            go_round
            case rel => exact ⟨k + 1, by omega, by go_num, by show _ = _; rw [all_take_succ (within d) ps k (0, 0) hlt, hall.out, HS.out]; rfl⟩
            case measure => simp [intOf]; omega
          · have HS : Hid (rightD ps d = false) := by
              have : within d (ps.getD k (0, 0)) = false := by rw [HX.out]; exact decide_eq_false (fun h => hok ⟨h.2.2.1, h.2.2.2⟩)
              unfold rightD; show _ = _; rw [all_false (within d) ps k (0, 0) hlt this]; rfl
            have HO := Lib.hid hok; clear hok
            go_wp2_with (go_at_call 30; refine (instant_any _ _).mono ?_; rintro e w1 ⟨rfl, rfl⟩; rw [HI.out])
            all_goals first
              | (go_ret; exact ⟨ret_bool HS.out.symm, rfl⟩)
              | (exfalso; have := HO.out; omega)
        · have HI := Lib.hid (show instB x = false by simpa using hi)
          have HS : Hid (rightD ps d = false) := by
            have : within d (ps.getD k (0, 0)) = false := by rw [HX.out]; exact decide_eq_false (fun h => hi (by simpa [instB] using ⟨h.1, h.2.1⟩))
            unfold rightD; show _ = _; rw [all_false (within d) ps k (0, 0) hlt this]; rfl
          clear hi
          go_wp2_with (go_at_call 30; refine (instant_any _ _).mono ?_; rintro e w1 ⟨rfl, rfl⟩; rw [HI.out])
          go_ret
          exact ⟨ret_bool HS.out.symm, rfl⟩
      · obtain rfl : k = ps.length := by omega
        have HS : Hid (rightD ps d = true) := by
          have := hall.out; rw [List.take_length] at this
          unfold rightD; show _ = _; rw [this, decide_eq_true (by omega)]; rfl
        go_wp2
        go_ret
        exact ⟨ret_bool HS.out.symm, rfl⟩
def near (d : Int) (p : Int × Int) : Bool := decide (max p.2 (-p.2) ≤ d)
def honB (ps : List (Int × Int)) (d : Int) : Bool := rightB ps && ps.all (near d)
set_option maxHeartbeats 1000000 in
theorem honest_any (ps : List (Int × Int)) (a : Option Addr) (cap : Nat) (d : Int) (w : World) (hp : PacesA w a ps) (hm : ps.length ≤ 9223372036854775807) :
    Calls Try.prog 37 #[.slice a ps.length cap, .int .i64 d] w fun e w' => e = .returned (.bool (honB ps d)) ∧ Below w.heap.size w w' := by
  have HP := Lib.hid hp; clear hp
  by_cases hr : rightB ps = true
  · have HR := Lib.hid hr
    have hall0 : ps.all okPace = true := by unfold rightB at hr; simp only [Bool.and_eq_true] at hr; exact hr.1
    have HA := Lib.hid hall0
    clear hr hall0
    go_enter Try.func37, Try.ntmps37
    go_wp2_with fail
    refine (right_anyA ps a cap _ HP.out hm).mono ?_
    rintro e w1 ⟨rfl, hb1⟩
    rw [HR.out]
    have hs1 := hb1.size
    go_wp2
    go_loopw [12] (fun i wr => ∃ k : Nat, k ≤ ps.length ∧ i = .int .i64 k ∧ Below w.heap.size w wr ∧ Hid ((ps.take k).all (near d) = true)) (fun i _ => ps.length - (intOf i).toNat)
    case atStart => exact ⟨0, by omega, rfl, hb1, by simp [Hid]⟩
    case round =>
      obtain ⟨k, hk, rfl, hB, hall⟩ := hrel
      have hBs := hB.size
      by_cases hlt : k < ps.length
      · obtain ⟨x, y, hxy⟩ : ∃ x y, ps.getD k (0, 0) = (x, y) := ⟨_, _, rfl⟩
        obtain ⟨b, off, rfl, hh⟩ := HP.out k hlt
        have hop : okPace (ps.getD k (0, 0)) = true := by
          have := HA.out
          rw [List.all_eq_true] at this
          rw [List.getD_eq_getElem?_getD, List.getElem?_eq_getElem hlt]
          exact this _ (List.getElem_mem hlt)
        rw [hxy] at hh hop
        simp only [okPace, decide_eq_true_eq] at hop
        obtain ⟨o1, o2, o3, o4⟩ := hop
        obtain ⟨q1, q2⟩ := hh
        have g1 : wr.cell? ⟨b, off + k * 2, none⟩ = some (.int .i64 x) := by rw [hB.cell (p := ⟨b, off + k * 2, none⟩) (block_lt_of_cell q1)]; exact q1
        have g2 : wr.cell? ⟨b, off + k * 2 + 1, none⟩ = some (.int .i64 y) := by rw [hB.cell (p := ⟨b, off + k * 2 + 1, none⟩) (block_lt_of_cell q2)]; exact q2
        clear q1 q2
        have HX := Lib.hid hxy; clear hxy
        by_cases hok : max y (-y) ≤ d
        · have HS : Hid (near d (ps.getD k (0, 0)) = true) := by rw [HX.out]; exact decide_eq_true hok
          go_wp2
          go_roundw
          case rel => exact ⟨k + 1, by omega, by go_num, by (repeat' (first | (with_reducible exact Below.refl _ _) | (with_reducible assumption) | (with_reducible refine Below.alloc ?_ ?_ _) | (with_reducible refine Below.drew ?_) | (with_reducible refine below_dn ?_) | (with_reducible refine Below.setCell ?_ ?_ _) | (with_reducible exact Nat.le_refl _) | omega | (simp only [World.size_alloc, World.size_setCell, World.size_drew]; omega) | (simp; omega) | (simp; done))), by show _ = _; rw [all_take_succ (near d) ps k (0, 0) hlt, hall.out, HS.out]; rfl⟩
          case measure => simp [intOf]; omega
        · have HS : Hid (honB ps d = false) := by
            have : near d (ps.getD k (0, 0)) = false := by rw [HX.out]; exact decide_eq_false hok
            unfold honB; show _ = _; rw [all_false (near d) ps k (0, 0) hlt this, Bool.and_false]
          have HO := Lib.hid hok; have hok' : d < max y (-y) := by omega
          clear hok
          go_wp2
          all_goals first
            | (go_ret; exact ⟨ret_bool HS.out.symm, by (repeat' (first | (with_reducible exact Below.refl _ _) | (with_reducible assumption) | (with_reducible refine Below.alloc ?_ ?_ _) | (with_reducible refine Below.drew ?_) | (with_reducible refine below_dn ?_) | (with_reducible refine Below.setCell ?_ ?_ _) | (with_reducible exact Nat.le_refl _) | omega | (simp only [World.size_alloc, World.size_setCell, World.size_drew]; omega) | (simp; omega) | (simp; done)))⟩)
            | (exfalso; have := HO.out; omega)
      · obtain rfl : k = ps.length := by omega
        have HS : Hid (honB ps d = true) := by
          have := hall.out; rw [List.take_length] at this
          unfold honB; show _ = _; rw [this, HR.out]; rfl
        go_wp2
        go_ret
        exact ⟨ret_bool HS.out.symm, hB⟩
  · have HR := Lib.hid (show rightB ps = false by simpa using hr)
    have HS : Hid (honB ps d = false) := by unfold honB; show _ = _; rw [HR.out]; rfl
    clear hr
    go_enter Try.func37, Try.ntmps37
    go_wp2_with fail
    refine (right_anyA ps a cap _ HP.out hm).mono ?_
    rintro e w1 ⟨rfl, hb1⟩
    rw [HR.out]
    have hs1 := hb1.size
    go_wp2
    go_ret
    exact ⟨ret_bool HS.out.symm, by (repeat' (first | (with_reducible exact Below.refl _ _) | (with_reducible assumption) | (with_reducible refine Below.alloc ?_ ?_ _) | (with_reducible refine Below.drew ?_) | (with_reducible refine below_dn ?_) | (with_reducible refine Below.setCell ?_ ?_ _) | (with_reducible exact Nat.le_refl _) | omega | (simp only [World.size_alloc, World.size_setCell, World.size_drew]; omega) | (simp; omega) | (simp; done)))⟩
theorem right_same (ps : List (Int × Int)) : rightD ps 100000 = rightB ps := by
  unfold rightD rightB
  congr 1
  apply List.all_congr rfl
  intro p
  unfold within okPace
  apply decide_eq_decide.mpr
  omega
theorem hon_neg (ps : List (Int × Int)) (d : Int) (h : d < 0) : honB ps d = (rightB ps && decide (ps.length = 0)) := by
  unfold honB
  congr 1
  cases ps with
  | nil => rfl
  | cons p ps =>
    have : near d p = false := decide_eq_false (by omega)
    simp [this]
theorem hon_big (ps : List (Int × Int)) (d : Int) (h : 100000 < d) : honB ps d = rightB ps := by
  unfold honB
  cases hr : rightB ps with
  | false => rfl
  | true =>
    have ha : ps.all okPace = true := by unfold rightB at hr; simp only [Bool.and_eq_true] at hr; exact hr.1
    rw [Bool.true_and, List.all_eq_true]
    intro p hp
    have := List.all_eq_true.1 ha p hp
    simp only [okPace, decide_eq_true_eq] at this
    exact decide_eq_true (by omega)
theorem hon_mid (ps : List (Int × Int)) (d : Int) : honB ps d = (rightB ps && rightD ps d) := by
  unfold honB
  cases hr : rightB ps with
  | false => rfl
  | true =>
    unfold rightB at hr; simp only [Bool.and_eq_true, decide_eq_true_eq] at hr
    obtain ⟨ha, hl⟩ := hr
    unfold rightD
    rw [Bool.true_and, Bool.true_and, decide_eq_true hl, Bool.and_true, Bool.eq_iff_iff, List.all_eq_true, List.all_eq_true]
    constructor
    · intro h p hp
      have a1 := List.all_eq_true.1 ha p hp
      have a2 := h p hp
      simp only [okPace, near, decide_eq_true_eq] at a1 a2
      exact decide_eq_true (by omega)
    · intro h p hp
      have a2 := h p hp
      simp only [within, decide_eq_true_eq] at a2
      exact decide_eq_true (by omega)
set_option maxHeartbeats 1000000 in
theorem honestref_any (ps : List (Int × Int)) (a : Option Addr) (cap : Nat) (d : Int) (w : World) (hp : PacesA w a ps) (hm : ps.length ≤ 9223372036854775807) :
    Calls Try.prog 38 #[.slice a ps.length cap, .int .i64 d] w fun e w' => e = .returned (.bool (honB ps d)) ∧ w = w' := by
  have HP := Lib.hid hp; clear hp
  obtain ⟨r, hr⟩ : ∃ r, rightB ps = r := ⟨_, rfl⟩
  have HR : Hid (rightD ps 100000 = r) := by show _ = _; rw [right_same]; exact hr
  have HQ := Lib.hid hr; clear hr
  by_cases h0 : d < 0
  · have HS : Hid (honB ps d = (r && decide (ps.length = 0))) := by show _ = _; rw [hon_neg ps d h0, HQ.out]
    go_enter Try.func38, Try.ntmps38
    go_wp2_with fail
    refine (rightref_any ps a cap 100000 _ (by omega) (by omega) HP.out hm).mono ?_
    rintro e w1 ⟨rfl, rfl⟩
    rw [HR.out]
    cases r
    · go_wp2
      go_ret
      exact ⟨ret_bool HS.out.symm, rfl⟩
    · go_wp2
      all_goals
        go_ret
        exact ⟨ret_bool (by rw [HS.out]; first | rfl | (rw [Bool.eq_iff_iff]; simp) | simp_all), rfl⟩
  · by_cases h1 : 100000 < d
    · have HS : Hid (honB ps d = r) := by show _ = _; rw [hon_big ps d h1, HQ.out]
      go_enter Try.func38, Try.ntmps38
      go_wp2_with fail
      refine (rightref_any ps a cap 100000 _ (by omega) (by omega) HP.out hm).mono ?_
      rintro e w1 ⟨rfl, rfl⟩
      rw [HR.out]
      cases r
      all_goals
        go_wp2
        go_ret
        exact ⟨ret_bool HS.out.symm, rfl⟩
    · have HS : Hid (honB ps d = (r && rightD ps d)) := by show _ = _; rw [hon_mid ps d, HQ.out]
      go_enter Try.func38, Try.ntmps38
      go_wp2_with fail
      refine (rightref_any ps a cap 100000 _ (by omega) (by omega) HP.out hm).mono ?_
      rintro e w1 ⟨rfl, rfl⟩
      rw [HR.out]
      cases r
      · go_wp2
        go_ret
        exact ⟨ret_bool HS.out.symm, rfl⟩
      · go_wp2_with fail
        refine (rightref_any ps a cap d _ (by omega) (by omega) HP.out hm).mono ?_
        rintro e w2 ⟨rfl, rfl⟩
        go_wp2
        go_ret
        exact ⟨ret_bool (by rw [HS.out]; simp; intro h; omega), rfl⟩
end Go.Proofs.Ytnojnfmhinjcpaa
