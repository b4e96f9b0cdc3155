/- Merge. -/
import Derived.Test.YtigalbgailnicaaR2
import Derived.Deep.Cut
namespace Go.Proofs.Ytigalbgailnicaa
set_option linter.unusedVariables false
set_option linter.unusedSimpArgs false
open Go.RowKit Go.Sort
/-- The bucket at k goes with the first one. -/
def Goes (bs : List Bk) (k : Nat) : Prop := OkBk (bs.getD k Bk.zero) ∧ (bs.getD k Bk.zero).d = (bs.getD 0 Bk.zero).d ∧ (bs.getD k Bk.zero).a = (bs.getD 0 Bk.zero).a
set_option maxHeartbeats 600000 in
theorem merge_len (bs : List Bk) (a : Option Addr) (cap : Nat) (w : World) (hm : bs.length ≤ 9223372036854775807) (h : bs.length < 1 ∨ 64 < bs.length) :
    Calls Try.prog 25 #[.slice a bs.length cap] w fun e w' => e = .returned (.tuple #[bk 0 0 0 0 0, .int .i64 1]) ∧ Below w.heap.size w w' := by
  have h' : (bs.length : Int) < 1 ∨ (64 : Int) < bs.length := by omega
  have H := Lib.hid h'; clear h h'
  go_enter Try.func25, Try.ntmps25
  go_wp2_with fail
  refine (within_no _ _ _ _ H.out).mono ?_
  rintro e w1b ⟨rfl, rfl⟩
  go_wp2
  refine bodyPost_ret (v := .tuple #[bk 0 0 0 0 0, .int .i64 1]) (by simp [results, Try.results25, go_sem]; try rfl) rfl ⟨rfl, by (repeat' (first | (with_reducible exact Below.refl _ _) | (with_reducible assumption) | (with_reducible refine Below.alloc ?_ ?_ _) | (with_reducible refine Below.drew ?_) | (with_reducible refine below_dn ?_) | (with_reducible refine Below.setCell ?_ ?_ _) | (with_reducible exact Nat.le_refl _) | omega | (simp only [World.size_alloc, World.size_setCell, World.size_drew]; omega) | (simp; omega) | (simp; done)))⟩
set_option maxRecDepth 100000 in
set_option maxHeartbeats 1500000 in
theorem merge_bad (bs : List Bk) (a : Option Addr) (cap M : Nat) (w : World) (hp : BktsA w a bs) (h1 : 1 ≤ bs.length) (h2 : bs.length ≤ 64) (hgood : ∀ k, k < M → Goes bs k) (hM : M < bs.length) (hlast : ¬ Goes bs M) :
    Calls Try.prog 25 #[.slice a bs.length cap] w fun e w' => e = .returned (.tuple #[bk 0 0 0 0 0, .int .i64 1]) ∧ Below w.heap.size w w' := by
  have HP := Lib.hid hp; clear hp
  have HG := Lib.hid hgood; clear hgood
  have HL := Lib.hid hlast; clear hlast
  obtain ⟨b, off, rfl, x0, x1, x2, x3, x4⟩ := HP.out 0 (by omega)
  have zb := block_lt_of_cell x0
  simp only at zb
  obtain ⟨⟨c0, n0, d0, l0, t0⟩, hb0⟩ : ∃ z, bs.getD 0 Bk.zero = z := ⟨_, rfl⟩
  rw [hb0] at x0 x1 x2 x3 x4
  simp only [Nat.zero_mul, Nat.add_zero] at x0 x1 x2 x3 x4
  have HB0 := Lib.hid hb0; clear hb0
  go_enter Try.func25, Try.ntmps25
  go_wp2_with fail
  refine (within_yes _ _ _ _ (by omega) (by omega)).mono ?_
  rintro e w1b ⟨rfl, rfl⟩
  go_wp2
  go_loopw [14] (fun i wr => ∃ k : Nat, k ≤ M ∧ i = .int .i64 k ∧ Below w.heap.size w wr ∧ w.heap.size < wr.heap.size ∧ Hid (∀ o, wr.frozen? ⟨w.heap.size, o, none⟩ = false) ∧
    wr.cell? ⟨w.heap.size, 0, none⟩ = some (.int .i64 0) ∧ wr.cell? ⟨w.heap.size, 1, none⟩ = some (.int .i64 0) ∧ wr.cell? ⟨w.heap.size, 2, none⟩ = some (.int .i64 0) ∧ wr.cell? ⟨w.heap.size, 3, none⟩ = some (.int .i64 0) ∧ wr.cell? ⟨w.heap.size, 4, none⟩ = some (.int .i64 0)) (fun i _ => bs.length - (intOf i).toNat)
  case atStart => exact ⟨0, by omega, rfl, by (repeat' (first | (with_reducible exact Below.refl _ _) | (with_reducible assumption) | (with_reducible refine Below.alloc ?_ ?_ _) | (with_reducible refine Below.drew ?_) | (with_reducible refine below_dn ?_) | (with_reducible refine Below.setCell ?_ ?_ _) | (with_reducible exact Nat.le_refl _) | omega | (simp only [World.size_alloc, World.size_setCell, World.size_drew]; omega) | (simp; omega) | (simp; done))), by simp, fun o => by simp [go_sem], by simp [go_sem], by simp [go_sem], by simp [go_sem], by simp [go_sem], by simp [go_sem]⟩
  case round =>
    obtain ⟨k, hk, rfl, hB, zw, hf, r0, r1, r2, r3, r4⟩ := hrel
    have y0 := keep x0 hB; have y1 := keep x1 hB; have y2 := keep x2 hB; have y3 := keep x3 hB; have y4 := keep x4 hB
    have zb' := Nat.lt_of_lt_of_le zb hB.size
    have F := hf.out
    by_cases hlt : k < M
    · obtain ⟨b', off', he, e0, e1, e2, e3, e4⟩ := HP.out k (by omega)
      simp only [Option.some.injEq, Addr.mk.injEq, and_true] at he
      obtain ⟨rfl, rfl⟩ := he
      have e0 := keep e0 hB; have e1 := keep e1 hB; have e2 := keep e2 hB; have e3 := keep e3 hB; have e4 := keep e4 hB
      have gk := HG.out k (by omega)
      unfold Goes at gk
      rw [HB0.out] at gk
      obtain ⟨⟨c, n, d, l, t⟩, hb⟩ : ∃ z, bs.getD k Bk.zero = z := ⟨_, rfl⟩
      rw [hb] at e0 e1 e2 e3 e4 gk
      simp only at e0 e1 e2 e3 e4 gk
      obtain ⟨ok, hd, ht⟩ := gk
      subst hd ht
      have OK := Lib.hid (show OkB c n d l t from ok)
      clear hb ok
      go_upto_region 6 with (fail)
      obtain ⟨wx, hwx⟩ : ∃ W, wr.alloc (Obj.cells #[.int .i64 c, .int .i64 n, .int .i64 d, .int .i64 l, .int .i64 t] 23) = W := ⟨_, rfl⟩
      rw [hwx]
      have Bx : Below wr.heap.size wr wx := by rw [← hwx]; (repeat' (first | (with_reducible exact Below.refl _ _) | (with_reducible assumption) | (with_reducible refine Below.alloc ?_ ?_ _) | (with_reducible refine Below.drew ?_) | (with_reducible refine below_dn ?_) | (with_reducible refine Below.setCell ?_ ?_ _) | (with_reducible exact Nat.le_refl _) | omega | (simp only [World.size_alloc, World.size_setCell, World.size_drew]; omega) | (simp; omega) | (simp; done)))
      have gx : wr.heap.size < wx.heap.size := by rw [← hwx]; simp
      have v0 : wx.cell? ⟨wr.heap.size, 0, none⟩ = some (.int .i64 c) := by rw [← hwx]; simp [go_sem]
      have v1 : wx.cell? ⟨wr.heap.size, 1, none⟩ = some (.int .i64 n) := by rw [← hwx]; simp [go_sem]
      have v2 : wx.cell? ⟨wr.heap.size, 2, none⟩ = some (.int .i64 d) := by rw [← hwx]; simp [go_sem]
      have v3 : wx.cell? ⟨wr.heap.size, 3, none⟩ = some (.int .i64 l) := by rw [← hwx]; simp [go_sem]
      have v4 : wx.cell? ⟨wr.heap.size, 4, none⟩ = some (.int .i64 t) := by rw [← hwx]; simp [go_sem]
      have j0 := keep y0 Bx; have j1 := keep y1 Bx; have j2 := keep y2 Bx; have j3 := keep y3 Bx; have j4 := keep y4 Bx
      have zbx := Nat.lt_of_lt_of_le zb' Bx.size
      clear hwx
      have gc := grow_cell
      have hpos : 0 < bs.length := by omega
      have hposI : (0 : Int) < (bs.length : Int) := by omega
      have hposB : decide (0 < bs.length) = true := decide_eq_true hpos
      refine wp_region_quiet_below (by kernel_rfl) (by kernel_rfl) ?_
      repeat (quiet_step (first | (go_at_call 20; with_reducible exact Calls.regrown_of (valid_yes _ _ _ _ _ _ OK.out)) | (go_at_call 32; with_reducible exact Calls.regrown_of (frame_any _ _ _ _ _ _))))
      refine wpQuiet_nil ?_
      intro w2 hw'
      obtain ⟨⟨dq, osq⟩, hw''⟩ := hw'
      have hb2 := below_of_grow hw''
      clear hw'' gc
      have zq := hb2.size
      have q0 : w2.cell? ⟨w.heap.size, 0, none⟩ = some (.int .i64 0) := keep (keep r0 Bx) hb2
      have q1 : w2.cell? ⟨w.heap.size, 1, none⟩ = some (.int .i64 0) := keep (keep r1 Bx) hb2
      have q2 : w2.cell? ⟨w.heap.size, 2, none⟩ = some (.int .i64 0) := keep (keep r2 Bx) hb2
      have q3 : w2.cell? ⟨w.heap.size, 3, none⟩ = some (.int .i64 0) := keep (keep r3 Bx) hb2
      have q4 : w2.cell? ⟨w.heap.size, 4, none⟩ = some (.int .i64 0) := keep (keep r4 Bx) hb2
      have F2 : ∀ o, w2.frozen? ⟨w.heap.size, o, none⟩ = false := fun o => (hb2.frozen (p := ⟨w.heap.size, o, none⟩) (by show w.heap.size < _; omega)).trans ((Bx.frozen (p := ⟨w.heap.size, o, none⟩) zw).trans (F o))
      have B2 : Below w.heap.size w w2 := bt (bt hB Bx) hb2
      clear r0 r1 r2 r3 r4 F
      go_wp2
      go_roundw
      case rel => exact ⟨k + 1, by omega, by go_num, B2, by omega, F2, q0, q1, q2, q3, q4⟩
      case measure => simp [intOf]; omega
    · obtain rfl : k = M := by omega
      obtain ⟨b', off', he, e0, e1, e2, e3, e4⟩ := HP.out k (by omega)
      simp only [Option.some.injEq, Addr.mk.injEq, and_true] at he
      obtain ⟨rfl, rfl⟩ := he
      have e0 := keep e0 hB; have e1 := keep e1 hB; have e2 := keep e2 hB; have e3 := keep e3 hB; have e4 := keep e4 hB
      have gk := HL.out
      unfold Goes at gk
      rw [HB0.out] at gk
      obtain ⟨⟨c, n, d, l, t⟩, hb⟩ : ∃ z, bs.getD k Bk.zero = z := ⟨_, rfl⟩
      rw [hb] at e0 e1 e2 e3 e4 gk
      simp only at e0 e1 e2 e3 e4 gk
      clear hb
      by_cases ok : OkB c n d l t
      · have OK := Lib.hid ok
        have hne : d = d0 → ¬ t = t0 := fun x y => gk ⟨ok, x, y⟩
        have HN := Lib.hid hne
        clear gk ok hne HL
        by_cases hd : d = d0
        · have ht := HN.out hd
          subst hd
          go_upto_region 6 with (fail)
          obtain ⟨wx, hwx⟩ : ∃ W, wr.alloc (Obj.cells #[.int .i64 c, .int .i64 n, .int .i64 d, .int .i64 l, .int .i64 t] 23) = W := ⟨_, rfl⟩
          rw [hwx]
          have Bx : Below wr.heap.size wr wx := by rw [← hwx]; (repeat' (first | (with_reducible exact Below.refl _ _) | (with_reducible assumption) | (with_reducible refine Below.alloc ?_ ?_ _) | (with_reducible refine Below.drew ?_) | (with_reducible refine below_dn ?_) | (with_reducible refine Below.setCell ?_ ?_ _) | (with_reducible exact Nat.le_refl _) | omega | (simp only [World.size_alloc, World.size_setCell, World.size_drew]; omega) | (simp; omega) | (simp; done)))
          have gx : wr.heap.size < wx.heap.size := by rw [← hwx]; simp
          have v0 : wx.cell? ⟨wr.heap.size, 0, none⟩ = some (.int .i64 c) := by rw [← hwx]; simp [go_sem]
          have v1 : wx.cell? ⟨wr.heap.size, 1, none⟩ = some (.int .i64 n) := by rw [← hwx]; simp [go_sem]
          have v2 : wx.cell? ⟨wr.heap.size, 2, none⟩ = some (.int .i64 d) := by rw [← hwx]; simp [go_sem]
          have v3 : wx.cell? ⟨wr.heap.size, 3, none⟩ = some (.int .i64 l) := by rw [← hwx]; simp [go_sem]
          have v4 : wx.cell? ⟨wr.heap.size, 4, none⟩ = some (.int .i64 t) := by rw [← hwx]; simp [go_sem]
          have j0 := keep y0 Bx; have j1 := keep y1 Bx; have j2 := keep y2 Bx; have j3 := keep y3 Bx; have j4 := keep y4 Bx
          have zbx := Nat.lt_of_lt_of_le zb' Bx.size
          clear hwx
          have gc := grow_cell
          have hpos : 0 < bs.length := by omega
          have hposI : (0 : Int) < (bs.length : Int) := by omega
          have hposB : decide (0 < bs.length) = true := decide_eq_true hpos
          refine wp_region_quiet_below (by kernel_rfl) (by kernel_rfl) ?_
          repeat (quiet_step (first | (go_at_call 20; with_reducible exact Calls.regrown_of (valid_yes _ _ _ _ _ _ OK.out)) | (go_at_call 32; with_reducible exact Calls.regrown_of (frame_any _ _ _ _ _ _))))
          refine wpQuiet_nil ?_
          intro w2 hw'
          obtain ⟨⟨dq, osq⟩, hw''⟩ := hw'
          have hb2 := below_of_grow hw''
          clear hw'' gc
          have zq := hb2.size
          have q0 : w2.cell? ⟨w.heap.size, 0, none⟩ = some (.int .i64 0) := keep (keep r0 Bx) hb2
          have q1 : w2.cell? ⟨w.heap.size, 1, none⟩ = some (.int .i64 0) := keep (keep r1 Bx) hb2
          have q2 : w2.cell? ⟨w.heap.size, 2, none⟩ = some (.int .i64 0) := keep (keep r2 Bx) hb2
          have q3 : w2.cell? ⟨w.heap.size, 3, none⟩ = some (.int .i64 0) := keep (keep r3 Bx) hb2
          have q4 : w2.cell? ⟨w.heap.size, 4, none⟩ = some (.int .i64 0) := keep (keep r4 Bx) hb2
          have F2 : ∀ o, w2.frozen? ⟨w.heap.size, o, none⟩ = false := fun o => (hb2.frozen (p := ⟨w.heap.size, o, none⟩) (by show w.heap.size < _; omega)).trans ((Bx.frozen (p := ⟨w.heap.size, o, none⟩) zw).trans (F o))
          have B2 : Below w.heap.size w w2 := bt (bt hB Bx) hb2
          clear r0 r1 r2 r3 r4 F
          go_wp2
          refine bodyPost_ret (v := .tuple #[bk 0 0 0 0 0, .int .i64 1]) (by simp [results, Try.results25, go_sem, q0, q1, q2, q3, q4]; try rfl) rfl ⟨rfl, by (repeat' (first | (with_reducible exact Below.refl _ _) | (with_reducible assumption) | (with_reducible refine Below.alloc ?_ ?_ _) | (with_reducible refine Below.drew ?_) | (with_reducible refine below_dn ?_) | (with_reducible refine Below.setCell ?_ ?_ _) | (with_reducible exact Nat.le_refl _) | omega | (simp only [World.size_alloc, World.size_setCell, World.size_drew]; omega) | (simp; omega) | (simp; done)))⟩
        · go_upto_region 6 with (fail)
          obtain ⟨wx, hwx⟩ : ∃ W, wr.alloc (Obj.cells #[.int .i64 c, .int .i64 n, .int .i64 d, .int .i64 l, .int .i64 t] 23) = W := ⟨_, rfl⟩
          rw [hwx]
          have Bx : Below wr.heap.size wr wx := by rw [← hwx]; (repeat' (first | (with_reducible exact Below.refl _ _) | (with_reducible assumption) | (with_reducible refine Below.alloc ?_ ?_ _) | (with_reducible refine Below.drew ?_) | (with_reducible refine below_dn ?_) | (with_reducible refine Below.setCell ?_ ?_ _) | (with_reducible exact Nat.le_refl _) | omega | (simp only [World.size_alloc, World.size_setCell, World.size_drew]; omega) | (simp; omega) | (simp; done)))
          have gx : wr.heap.size < wx.heap.size := by rw [← hwx]; simp
          have v0 : wx.cell? ⟨wr.heap.size, 0, none⟩ = some (.int .i64 c) := by rw [← hwx]; simp [go_sem]
          have v1 : wx.cell? ⟨wr.heap.size, 1, none⟩ = some (.int .i64 n) := by rw [← hwx]; simp [go_sem]
          have v2 : wx.cell? ⟨wr.heap.size, 2, none⟩ = some (.int .i64 d) := by rw [← hwx]; simp [go_sem]
          have v3 : wx.cell? ⟨wr.heap.size, 3, none⟩ = some (.int .i64 l) := by rw [← hwx]; simp [go_sem]
          have v4 : wx.cell? ⟨wr.heap.size, 4, none⟩ = some (.int .i64 t) := by rw [← hwx]; simp [go_sem]
          have j0 := keep y0 Bx; have j1 := keep y1 Bx; have j2 := keep y2 Bx; have j3 := keep y3 Bx; have j4 := keep y4 Bx
          have zbx := Nat.lt_of_lt_of_le zb' Bx.size
          clear hwx
          have gc := grow_cell
          have hpos : 0 < bs.length := by omega
          have hposI : (0 : Int) < (bs.length : Int) := by omega
          have hposB : decide (0 < bs.length) = true := decide_eq_true hpos
          refine wp_region_quiet_below (by kernel_rfl) (by kernel_rfl) ?_
          repeat (quiet_step (first | (go_at_call 20; with_reducible exact Calls.regrown_of (valid_yes _ _ _ _ _ _ OK.out)) | (go_at_call 32; with_reducible exact Calls.regrown_of (frame_any _ _ _ _ _ _))))
          refine wpQuiet_nil ?_
          intro w2 hw'
          obtain ⟨⟨dq, osq⟩, hw''⟩ := hw'
          have hb2 := below_of_grow hw''
          clear hw'' gc
          have zq := hb2.size
          have q0 : w2.cell? ⟨w.heap.size, 0, none⟩ = some (.int .i64 0) := keep (keep r0 Bx) hb2
          have q1 : w2.cell? ⟨w.heap.size, 1, none⟩ = some (.int .i64 0) := keep (keep r1 Bx) hb2
          have q2 : w2.cell? ⟨w.heap.size, 2, none⟩ = some (.int .i64 0) := keep (keep r2 Bx) hb2
          have q3 : w2.cell? ⟨w.heap.size, 3, none⟩ = some (.int .i64 0) := keep (keep r3 Bx) hb2
          have q4 : w2.cell? ⟨w.heap.size, 4, none⟩ = some (.int .i64 0) := keep (keep r4 Bx) hb2
          have F2 : ∀ o, w2.frozen? ⟨w.heap.size, o, none⟩ = false := fun o => (hb2.frozen (p := ⟨w.heap.size, o, none⟩) (by show w.heap.size < _; omega)).trans ((Bx.frozen (p := ⟨w.heap.size, o, none⟩) zw).trans (F o))
          have B2 : Below w.heap.size w w2 := bt (bt hB Bx) hb2
          clear r0 r1 r2 r3 r4 F
          go_wp2
          refine bodyPost_ret (v := .tuple #[bk 0 0 0 0 0, .int .i64 1]) (by simp [results, Try.results25, go_sem, q0, q1, q2, q3, q4]; try rfl) rfl ⟨rfl, by (repeat' (first | (with_reducible exact Below.refl _ _) | (with_reducible assumption) | (with_reducible refine Below.alloc ?_ ?_ _) | (with_reducible refine Below.drew ?_) | (with_reducible refine below_dn ?_) | (with_reducible refine Below.setCell ?_ ?_ _) | (with_reducible exact Nat.le_refl _) | omega | (simp only [World.size_alloc, World.size_setCell, World.size_drew]; omega) | (simp; omega) | (simp; done)))⟩
      · have OK := Lib.hid ok
        clear gk ok HL
        go_upto_region 6 with (fail)
        obtain ⟨wx, hwx⟩ : ∃ W, wr.alloc (Obj.cells #[.int .i64 c, .int .i64 n, .int .i64 d, .int .i64 l, .int .i64 t] 23) = W := ⟨_, rfl⟩
        rw [hwx]
        have Bx : Below wr.heap.size wr wx := by rw [← hwx]; (repeat' (first | (with_reducible exact Below.refl _ _) | (with_reducible assumption) | (with_reducible refine Below.alloc ?_ ?_ _) | (with_reducible refine Below.drew ?_) | (with_reducible refine below_dn ?_) | (with_reducible refine Below.setCell ?_ ?_ _) | (with_reducible exact Nat.le_refl _) | omega | (simp only [World.size_alloc, World.size_setCell, World.size_drew]; omega) | (simp; omega) | (simp; done)))
        have gx : wr.heap.size < wx.heap.size := by rw [← hwx]; simp
        have v0 : wx.cell? ⟨wr.heap.size, 0, none⟩ = some (.int .i64 c) := by rw [← hwx]; simp [go_sem]
        have v1 : wx.cell? ⟨wr.heap.size, 1, none⟩ = some (.int .i64 n) := by rw [← hwx]; simp [go_sem]
        have v2 : wx.cell? ⟨wr.heap.size, 2, none⟩ = some (.int .i64 d) := by rw [← hwx]; simp [go_sem]
        have v3 : wx.cell? ⟨wr.heap.size, 3, none⟩ = some (.int .i64 l) := by rw [← hwx]; simp [go_sem]
        have v4 : wx.cell? ⟨wr.heap.size, 4, none⟩ = some (.int .i64 t) := by rw [← hwx]; simp [go_sem]
        have j0 := keep y0 Bx; have j1 := keep y1 Bx; have j2 := keep y2 Bx; have j3 := keep y3 Bx; have j4 := keep y4 Bx
        have zbx := Nat.lt_of_lt_of_le zb' Bx.size
        clear hwx
        have gc := grow_cell
        have hpos : 0 < bs.length := by omega
        have hposI : (0 : Int) < (bs.length : Int) := by omega
        have hposB : decide (0 < bs.length) = true := decide_eq_true hpos
        refine wp_region_quiet_below (by kernel_rfl) (by kernel_rfl) ?_
        repeat (quiet_step (first | (go_at_call 20; with_reducible exact Calls.regrown_of (valid_no _ _ _ _ _ _ OK.out)) | (go_at_call 32; with_reducible exact Calls.regrown_of (frame_any _ _ _ _ _ _))))
        refine wpQuiet_nil ?_
        intro w2 hw'
        obtain ⟨⟨dq, osq⟩, hw''⟩ := hw'
        have hb2 := below_of_grow hw''
        clear hw'' gc
        have zq := hb2.size
        have q0 : w2.cell? ⟨w.heap.size, 0, none⟩ = some (.int .i64 0) := keep (keep r0 Bx) hb2
        have q1 : w2.cell? ⟨w.heap.size, 1, none⟩ = some (.int .i64 0) := keep (keep r1 Bx) hb2
        have q2 : w2.cell? ⟨w.heap.size, 2, none⟩ = some (.int .i64 0) := keep (keep r2 Bx) hb2
        have q3 : w2.cell? ⟨w.heap.size, 3, none⟩ = some (.int .i64 0) := keep (keep r3 Bx) hb2
        have q4 : w2.cell? ⟨w.heap.size, 4, none⟩ = some (.int .i64 0) := keep (keep r4 Bx) hb2
        have F2 : ∀ o, w2.frozen? ⟨w.heap.size, o, none⟩ = false := fun o => (hb2.frozen (p := ⟨w.heap.size, o, none⟩) (by show w.heap.size < _; omega)).trans ((Bx.frozen (p := ⟨w.heap.size, o, none⟩) zw).trans (F o))
        have B2 : Below w.heap.size w w2 := bt (bt hB Bx) hb2
        clear r0 r1 r2 r3 r4 F
        go_wp2
        refine bodyPost_ret (v := .tuple #[bk 0 0 0 0 0, .int .i64 1]) (by simp [results, Try.results25, go_sem, q0, q1, q2, q3, q4]; try rfl) rfl ⟨rfl, by (repeat' (first | (with_reducible exact Below.refl _ _) | (with_reducible assumption) | (with_reducible refine Below.alloc ?_ ?_ _) | (with_reducible refine Below.drew ?_) | (with_reducible refine below_dn ?_) | (with_reducible refine Below.setCell ?_ ?_ _) | (with_reducible exact Nat.le_refl _) | omega | (simp only [World.size_alloc, World.size_setCell, World.size_drew]; omega) | (simp; omega) | (simp; done)))⟩
set_option maxRecDepth 100000 in
set_option maxHeartbeats 1500000 in
theorem merge_ok (bs : List Bk) (a : Option Addr) (cap M : Nat) (w : World) (hp : BktsA w a bs) (h1 : 1 ≤ bs.length) (h2 : bs.length ≤ 64) (hgood : ∀ k, k < M → Goes bs k) (hM : M = bs.length) (hlast : OkB (tsum Bk.c bs) (tsum Bk.n bs) (bs.getD 0 Bk.zero).d (tsum Bk.l bs) (bs.getD 0 Bk.zero).a) :
    Calls Try.prog 25 #[.slice a bs.length cap] w fun e w' => e = .returned (.tuple #[bk (tsum Bk.c bs) (tsum Bk.n bs) (bs.getD 0 Bk.zero).d (tsum Bk.l bs) (bs.getD 0 Bk.zero).a, .int .i64 0]) ∧ Below w.heap.size w w' := by
  subst hM
  have HP := Lib.hid hp; clear hp
  have HG := Lib.hid hgood; clear hgood
  have HL := Lib.hid hlast; clear hlast
  obtain ⟨b, off, rfl, x0, x1, x2, x3, x4⟩ := HP.out 0 (by omega)
  have zb := block_lt_of_cell x0
  simp only at zb
  obtain ⟨⟨c0, n0, d0, l0, t0⟩, hb0⟩ : ∃ z, bs.getD 0 Bk.zero = z := ⟨_, rfl⟩
  rw [hb0] at x0 x1 x2 x3 x4
  simp only [Nat.zero_mul, Nat.add_zero] at x0 x1 x2 x3 x4
  have HB0 := Lib.hid hb0; clear hb0
  go_enter Try.func25, Try.ntmps25
  go_wp2_with fail
  refine (within_yes _ _ _ _ (by omega) (by omega)).mono ?_
  rintro e w1b ⟨rfl, rfl⟩
  go_wp2
  go_loopw [14] (fun i wr => ∃ k : Nat, k ≤ bs.length ∧ i = .int .i64 k ∧ Below w.heap.size w wr ∧ w.heap.size < wr.heap.size ∧ Hid (∀ o, wr.frozen? ⟨w.heap.size, o, none⟩ = false) ∧
    wr.cell? ⟨w.heap.size, 0, none⟩ = some (.int .i64 0) ∧ wr.cell? ⟨w.heap.size, 1, none⟩ = some (.int .i64 0) ∧ wr.cell? ⟨w.heap.size, 2, none⟩ = some (.int .i64 0) ∧ wr.cell? ⟨w.heap.size, 3, none⟩ = some (.int .i64 0) ∧ wr.cell? ⟨w.heap.size, 4, none⟩ = some (.int .i64 0)) (fun i _ => bs.length - (intOf i).toNat)
  case atStart => exact ⟨0, by omega, rfl, by (repeat' (first | (with_reducible exact Below.refl _ _) | (with_reducible assumption) | (with_reducible refine Below.alloc ?_ ?_ _) | (with_reducible refine Below.drew ?_) | (with_reducible refine below_dn ?_) | (with_reducible refine Below.setCell ?_ ?_ _) | (with_reducible exact Nat.le_refl _) | omega | (simp only [World.size_alloc, World.size_setCell, World.size_drew]; omega) | (simp; omega) | (simp; done))), by simp, fun o => by simp [go_sem], by simp [go_sem], by simp [go_sem], by simp [go_sem], by simp [go_sem], by simp [go_sem]⟩
  case round =>
    obtain ⟨k, hk, rfl, hB, zw, hf, r0, r1, r2, r3, r4⟩ := hrel
    have y0 := keep x0 hB; have y1 := keep x1 hB; have y2 := keep x2 hB; have y3 := keep x3 hB; have y4 := keep x4 hB
    have zb' := Nat.lt_of_lt_of_le zb hB.size
    have F := hf.out
    by_cases hlt : k < bs.length
    · obtain ⟨b', off', he, e0, e1, e2, e3, e4⟩ := HP.out k (by omega)
      simp only [Option.some.injEq, Addr.mk.injEq, and_true] at he
      obtain ⟨rfl, rfl⟩ := he
      have e0 := keep e0 hB; have e1 := keep e1 hB; have e2 := keep e2 hB; have e3 := keep e3 hB; have e4 := keep e4 hB
      have gk := HG.out k (by omega)
      unfold Goes at gk
      rw [HB0.out] at gk
      obtain ⟨⟨c, n, d, l, t⟩, hb⟩ : ∃ z, bs.getD k Bk.zero = z := ⟨_, rfl⟩
      rw [hb] at e0 e1 e2 e3 e4 gk
      simp only at e0 e1 e2 e3 e4 gk
      obtain ⟨ok, hd, ht⟩ := gk
      subst hd ht
      have OK := Lib.hid (show OkB c n d l t from ok)
      clear hb ok
      go_upto_region 6 with (fail)
      obtain ⟨wx, hwx⟩ : ∃ W, wr.alloc (Obj.cells #[.int .i64 c, .int .i64 n, .int .i64 d, .int .i64 l, .int .i64 t] 23) = W := ⟨_, rfl⟩
      rw [hwx]
      have Bx : Below wr.heap.size wr wx := by rw [← hwx]; (repeat' (first | (with_reducible exact Below.refl _ _) | (with_reducible assumption) | (with_reducible refine Below.alloc ?_ ?_ _) | (with_reducible refine Below.drew ?_) | (with_reducible refine below_dn ?_) | (with_reducible refine Below.setCell ?_ ?_ _) | (with_reducible exact Nat.le_refl _) | omega | (simp only [World.size_alloc, World.size_setCell, World.size_drew]; omega) | (simp; omega) | (simp; done)))
      have gx : wr.heap.size < wx.heap.size := by rw [← hwx]; simp
      have v0 : wx.cell? ⟨wr.heap.size, 0, none⟩ = some (.int .i64 c) := by rw [← hwx]; simp [go_sem]
      have v1 : wx.cell? ⟨wr.heap.size, 1, none⟩ = some (.int .i64 n) := by rw [← hwx]; simp [go_sem]
      have v2 : wx.cell? ⟨wr.heap.size, 2, none⟩ = some (.int .i64 d) := by rw [← hwx]; simp [go_sem]
      have v3 : wx.cell? ⟨wr.heap.size, 3, none⟩ = some (.int .i64 l) := by rw [← hwx]; simp [go_sem]
      have v4 : wx.cell? ⟨wr.heap.size, 4, none⟩ = some (.int .i64 t) := by rw [← hwx]; simp [go_sem]
      have j0 := keep y0 Bx; have j1 := keep y1 Bx; have j2 := keep y2 Bx; have j3 := keep y3 Bx; have j4 := keep y4 Bx
      have zbx := Nat.lt_of_lt_of_le zb' Bx.size
      clear hwx
      have gc := grow_cell
      have hpos : 0 < bs.length := by omega
      have hposI : (0 : Int) < (bs.length : Int) := by omega
      have hposB : decide (0 < bs.length) = true := decide_eq_true hpos
      refine wp_region_quiet_below (by kernel_rfl) (by kernel_rfl) ?_
      repeat (quiet_step (first | (go_at_call 20; with_reducible exact Calls.regrown_of (valid_yes _ _ _ _ _ _ OK.out)) | (go_at_call 32; with_reducible exact Calls.regrown_of (frame_any _ _ _ _ _ _))))
      refine wpQuiet_nil ?_
      intro w2 hw'
      obtain ⟨⟨dq, osq⟩, hw''⟩ := hw'
      have hb2 := below_of_grow hw''
      clear hw'' gc
      have zq := hb2.size
      have q0 : w2.cell? ⟨w.heap.size, 0, none⟩ = some (.int .i64 0) := keep (keep r0 Bx) hb2
      have q1 : w2.cell? ⟨w.heap.size, 1, none⟩ = some (.int .i64 0) := keep (keep r1 Bx) hb2
      have q2 : w2.cell? ⟨w.heap.size, 2, none⟩ = some (.int .i64 0) := keep (keep r2 Bx) hb2
      have q3 : w2.cell? ⟨w.heap.size, 3, none⟩ = some (.int .i64 0) := keep (keep r3 Bx) hb2
      have q4 : w2.cell? ⟨w.heap.size, 4, none⟩ = some (.int .i64 0) := keep (keep r4 Bx) hb2
      have F2 : ∀ o, w2.frozen? ⟨w.heap.size, o, none⟩ = false := fun o => (hb2.frozen (p := ⟨w.heap.size, o, none⟩) (by show w.heap.size < _; omega)).trans ((Bx.frozen (p := ⟨w.heap.size, o, none⟩) zw).trans (F o))
      have B2 : Below w.heap.size w w2 := bt (bt hB Bx) hb2
      clear r0 r1 r2 r3 r4 F
      go_wp2
      go_roundw
      case rel => exact ⟨k + 1, by omega, by go_num, B2, by omega, F2, q0, q1, q2, q3, q4⟩
      case measure => simp [intOf]; omega
    · obtain rfl : k = bs.length := by omega
      have hs := sum_any bs (some ⟨b, off, none⟩) cap
      have c9 := fun (W : World) (hb : Below w.heap.size w W) => hs W (HP.out.mono hb) h1 h2 (fun j hj => (HG.out j hj).1)
      rw [HB0.out] at c9
      simp only at c9
      obtain ⟨sc, hsc⟩ : ∃ z, tsum Bk.c bs = z := ⟨_, rfl⟩
      obtain ⟨sn, hsn⟩ : ∃ z, tsum Bk.n bs = z := ⟨_, rfl⟩
      obtain ⟨sl, hsl⟩ : ∃ z, tsum Bk.l bs = z := ⟨_, rfl⟩
      rw [hsc, hsn, hsl] at c9 
      have HLo := HL.out
      rw [hsc, hsn, hsl, HB0.out] at HLo
      simp only at HLo
      have OKS := Lib.hid HLo
      have C9 := Lib.hid c9
      have E1 := Lib.hid hsc
      have E2 := Lib.hid hsn
      have E3 := Lib.hid hsl
      clear c9 hs hsc hsn hsl HLo HL
      go_wp2_with fail
      refine (C9.out _ (by (repeat' (first | (with_reducible exact Below.refl _ _) | (with_reducible assumption) | (with_reducible refine Below.alloc ?_ ?_ _) | (with_reducible refine Below.drew ?_) | (with_reducible refine below_dn ?_) | (with_reducible refine Below.setCell ?_ ?_ _) | (with_reducible exact Nat.le_refl _) | omega | (simp only [World.size_alloc, World.size_setCell, World.size_drew]; omega) | (simp; omega) | (simp; done))))).mono ?_
      rintro e w2 ⟨rfl, hb2⟩
      have zq := hb2.size
      have B2 : Below w.heap.size w w2 := bt (by (repeat' (first | (with_reducible exact Below.refl _ _) | (with_reducible assumption) | (with_reducible refine Below.alloc ?_ ?_ _) | (with_reducible refine Below.drew ?_) | (with_reducible refine below_dn ?_) | (with_reducible refine Below.setCell ?_ ?_ _) | (with_reducible exact Nat.le_refl _) | omega | (simp only [World.size_alloc, World.size_setCell, World.size_drew]; omega) | (simp; omega) | (simp; done)))) hb2
      have q0 : w2.cell? ⟨w.heap.size, 0, none⟩ = some (.int .i64 0) := keep r0 hb2
      have q1 : w2.cell? ⟨w.heap.size, 1, none⟩ = some (.int .i64 0) := keep r1 hb2
      have q2 : w2.cell? ⟨w.heap.size, 2, none⟩ = some (.int .i64 0) := keep r2 hb2
      have q3 : w2.cell? ⟨w.heap.size, 3, none⟩ = some (.int .i64 0) := keep r3 hb2
      have q4 : w2.cell? ⟨w.heap.size, 4, none⟩ = some (.int .i64 0) := keep r4 hb2
      have F2 : ∀ o, w2.frozen? ⟨w.heap.size, o, none⟩ = false := fun o => (hb2.frozen (p := ⟨w.heap.size, o, none⟩) zw).trans (F o)
      have zw2 : w.heap.size < w2.heap.size := by omega
      clear r0 r1 r2 r3 r4 F
      go_wp2_with fail
      refine (valid_yes _ _ _ _ _ _ OKS.out).mono ?_
      rintro e w3 ⟨rfl, hb3⟩
      have zq3 := hb3.size
      simp at zq3
      have B3 : Below w.heap.size w w3 := bt (by (repeat' (first | (with_reducible exact Below.refl _ _) | (with_reducible assumption) | (with_reducible refine Below.alloc ?_ ?_ _) | (with_reducible refine Below.drew ?_) | (with_reducible refine below_dn ?_) | (with_reducible refine Below.setCell ?_ ?_ _) | (with_reducible exact Nat.le_refl _) | omega | (simp only [World.size_alloc, World.size_setCell, World.size_drew]; omega) | (simp; omega) | (simp; done)))) hb3
      have p0 : w3.cell? ⟨w.heap.size, 0, none⟩ = some (.int .i64 0) := keep (by rw [World.cell?_alloc_past _ _ _ zw2]; exact q0) hb3
      have p1 : w3.cell? ⟨w.heap.size, 1, none⟩ = some (.int .i64 0) := keep (by rw [World.cell?_alloc_past _ _ _ zw2]; exact q1) hb3
      have p2 : w3.cell? ⟨w.heap.size, 2, none⟩ = some (.int .i64 0) := keep (by rw [World.cell?_alloc_past _ _ _ zw2]; exact q2) hb3
      have p3 : w3.cell? ⟨w.heap.size, 3, none⟩ = some (.int .i64 0) := keep (by rw [World.cell?_alloc_past _ _ _ zw2]; exact q3) hb3
      have p4 : w3.cell? ⟨w.heap.size, 4, none⟩ = some (.int .i64 0) := keep (by rw [World.cell?_alloc_past _ _ _ zw2]; exact q4) hb3
      have m0 : w3.cell? ⟨w2.heap.size, 0, none⟩ = some (.int .i64 sc) := keep (by simp [go_sem]) hb3
      have m1 : w3.cell? ⟨w2.heap.size, 1, none⟩ = some (.int .i64 sn) := keep (by simp [go_sem]) hb3
      have m2 : w3.cell? ⟨w2.heap.size, 2, none⟩ = some (.int .i64 d0) := keep (by simp [go_sem]) hb3
      have m3 : w3.cell? ⟨w2.heap.size, 3, none⟩ = some (.int .i64 sl) := keep (by simp [go_sem]) hb3
      have m4 : w3.cell? ⟨w2.heap.size, 4, none⟩ = some (.int .i64 t0) := keep (by simp [go_sem]) hb3
      have F3 : ∀ o, w3.frozen? ⟨w.heap.size, o, none⟩ = false := fun o => (hb3.frozen (p := ⟨w.heap.size, o, none⟩) (by simp; omega)).trans ((frozen?_alloc_cells _ _ _ _).trans (F2 o))
      clear q0 q1 q2 q3 q4 F2
      go_wp2
      refine bodyPost_ret (v := .tuple #[bk sc sn d0 sl t0, .int .i64 0]) (by simp [results, Try.results25, go_sem, p0, p1, p2, p3, p4]; try rfl) rfl ⟨by rw [E1.out, E2.out, E3.out, HB0.out], by (repeat' (first | (with_reducible exact Below.refl _ _) | (with_reducible assumption) | (with_reducible refine Below.alloc ?_ ?_ _) | (with_reducible refine Below.drew ?_) | (with_reducible refine below_dn ?_) | (with_reducible refine Below.setCell ?_ ?_ _) | (with_reducible exact Nat.le_refl _) | omega | (simp only [World.size_alloc, World.size_setCell, World.size_drew]; omega) | (simp; omega) | (simp; done)))⟩
set_option maxRecDepth 100000 in
set_option maxHeartbeats 1500000 in
theorem merge_no (bs : List Bk) (a : Option Addr) (cap M : Nat) (w : World) (hp : BktsA w a bs) (h1 : 1 ≤ bs.length) (h2 : bs.length ≤ 64) (hgood : ∀ k, k < M → Goes bs k) (hM : M = bs.length) (hlast : ¬ OkB (tsum Bk.c bs) (tsum Bk.n bs) (bs.getD 0 Bk.zero).d (tsum Bk.l bs) (bs.getD 0 Bk.zero).a) :
    Calls Try.prog 25 #[.slice a bs.length cap] w fun e w' => e = .returned (.tuple #[bk 0 0 0 0 0, .int .i64 1]) ∧ Below w.heap.size w w' := by
  subst hM
  have HP := Lib.hid hp; clear hp
  have HG := Lib.hid hgood; clear hgood
  have HL := Lib.hid hlast; clear hlast
  obtain ⟨b, off, rfl, x0, x1, x2, x3, x4⟩ := HP.out 0 (by omega)
  have zb := block_lt_of_cell x0
  simp only at zb
  obtain ⟨⟨c0, n0, d0, l0, t0⟩, hb0⟩ : ∃ z, bs.getD 0 Bk.zero = z := ⟨_, rfl⟩
  rw [hb0] at x0 x1 x2 x3 x4
  simp only [Nat.zero_mul, Nat.add_zero] at x0 x1 x2 x3 x4
  have HB0 := Lib.hid hb0; clear hb0
  go_enter Try.func25, Try.ntmps25
  go_wp2_with fail
  refine (within_yes _ _ _ _ (by omega) (by omega)).mono ?_
  rintro e w1b ⟨rfl, rfl⟩
  go_wp2
  go_loopw [14] (fun i wr => ∃ k : Nat, k ≤ bs.length ∧ i = .int .i64 k ∧ Below w.heap.size w wr ∧ w.heap.size < wr.heap.size ∧ Hid (∀ o, wr.frozen? ⟨w.heap.size, o, none⟩ = false) ∧
    wr.cell? ⟨w.heap.size, 0, none⟩ = some (.int .i64 0) ∧ wr.cell? ⟨w.heap.size, 1, none⟩ = some (.int .i64 0) ∧ wr.cell? ⟨w.heap.size, 2, none⟩ = some (.int .i64 0) ∧ wr.cell? ⟨w.heap.size, 3, none⟩ = some (.int .i64 0) ∧ wr.cell? ⟨w.heap.size, 4, none⟩ = some (.int .i64 0)) (fun i _ => bs.length - (intOf i).toNat)
  case atStart => exact ⟨0, by omega, rfl, by (repeat' (first | (with_reducible exact Below.refl _ _) | (with_reducible assumption) | (with_reducible refine Below.alloc ?_ ?_ _) | (with_reducible refine Below.drew ?_) | (with_reducible refine below_dn ?_) | (with_reducible refine Below.setCell ?_ ?_ _) | (with_reducible exact Nat.le_refl _) | omega | (simp only [World.size_alloc, World.size_setCell, World.size_drew]; omega) | (simp; omega) | (simp; done))), by simp, fun o => by simp [go_sem], by simp [go_sem], by simp [go_sem], by simp [go_sem], by simp [go_sem], by simp [go_sem]⟩
  case round =>
    obtain ⟨k, hk, rfl, hB, zw, hf, r0, r1, r2, r3, r4⟩ := hrel
    have y0 := keep x0 hB; have y1 := keep x1 hB; have y2 := keep x2 hB; have y3 := keep x3 hB; have y4 := keep x4 hB
    have zb' := Nat.lt_of_lt_of_le zb hB.size
    have F := hf.out
    by_cases hlt : k < bs.length
    · obtain ⟨b', off', he, e0, e1, e2, e3, e4⟩ := HP.out k (by omega)
      simp only [Option.some.injEq, Addr.mk.injEq, and_true] at he
      obtain ⟨rfl, rfl⟩ := he
      have e0 := keep e0 hB; have e1 := keep e1 hB; have e2 := keep e2 hB; have e3 := keep e3 hB; have e4 := keep e4 hB
      have gk := HG.out k (by omega)
      unfold Goes at gk
      rw [HB0.out] at gk
      obtain ⟨⟨c, n, d, l, t⟩, hb⟩ : ∃ z, bs.getD k Bk.zero = z := ⟨_, rfl⟩
      rw [hb] at e0 e1 e2 e3 e4 gk
      simp only at e0 e1 e2 e3 e4 gk
      obtain ⟨ok, hd, ht⟩ := gk
      subst hd ht
      have OK := Lib.hid (show OkB c n d l t from ok)
      clear hb ok
      go_upto_region 6 with (fail)
      obtain ⟨wx, hwx⟩ : ∃ W, wr.alloc (Obj.cells #[.int .i64 c, .int .i64 n, .int .i64 d, .int .i64 l, .int .i64 t] 23) = W := ⟨_, rfl⟩
      rw [hwx]
      have Bx : Below wr.heap.size wr wx := by rw [← hwx]; (repeat' (first | (with_reducible exact Below.refl _ _) | (with_reducible assumption) | (with_reducible refine Below.alloc ?_ ?_ _) | (with_reducible refine Below.drew ?_) | (with_reducible refine below_dn ?_) | (with_reducible refine Below.setCell ?_ ?_ _) | (with_reducible exact Nat.le_refl _) | omega | (simp only [World.size_alloc, World.size_setCell, World.size_drew]; omega) | (simp; omega) | (simp; done)))
      have gx : wr.heap.size < wx.heap.size := by rw [← hwx]; simp
      have v0 : wx.cell? ⟨wr.heap.size, 0, none⟩ = some (.int .i64 c) := by rw [← hwx]; simp [go_sem]
      have v1 : wx.cell? ⟨wr.heap.size, 1, none⟩ = some (.int .i64 n) := by rw [← hwx]; simp [go_sem]
      have v2 : wx.cell? ⟨wr.heap.size, 2, none⟩ = some (.int .i64 d) := by rw [← hwx]; simp [go_sem]
      have v3 : wx.cell? ⟨wr.heap.size, 3, none⟩ = some (.int .i64 l) := by rw [← hwx]; simp [go_sem]
      have v4 : wx.cell? ⟨wr.heap.size, 4, none⟩ = some (.int .i64 t) := by rw [← hwx]; simp [go_sem]
      have j0 := keep y0 Bx; have j1 := keep y1 Bx; have j2 := keep y2 Bx; have j3 := keep y3 Bx; have j4 := keep y4 Bx
      have zbx := Nat.lt_of_lt_of_le zb' Bx.size
      clear hwx
      have gc := grow_cell
      have hpos : 0 < bs.length := by omega
      have hposI : (0 : Int) < (bs.length : Int) := by omega
      have hposB : decide (0 < bs.length) = true := decide_eq_true hpos
      refine wp_region_quiet_below (by kernel_rfl) (by kernel_rfl) ?_
      repeat (quiet_step (first | (go_at_call 20; with_reducible exact Calls.regrown_of (valid_yes _ _ _ _ _ _ OK.out)) | (go_at_call 32; with_reducible exact Calls.regrown_of (frame_any _ _ _ _ _ _))))
      refine wpQuiet_nil ?_
      intro w2 hw'
      obtain ⟨⟨dq, osq⟩, hw''⟩ := hw'
      have hb2 := below_of_grow hw''
      clear hw'' gc
      have zq := hb2.size
      have q0 : w2.cell? ⟨w.heap.size, 0, none⟩ = some (.int .i64 0) := keep (keep r0 Bx) hb2
      have q1 : w2.cell? ⟨w.heap.size, 1, none⟩ = some (.int .i64 0) := keep (keep r1 Bx) hb2
      have q2 : w2.cell? ⟨w.heap.size, 2, none⟩ = some (.int .i64 0) := keep (keep r2 Bx) hb2
      have q3 : w2.cell? ⟨w.heap.size, 3, none⟩ = some (.int .i64 0) := keep (keep r3 Bx) hb2
      have q4 : w2.cell? ⟨w.heap.size, 4, none⟩ = some (.int .i64 0) := keep (keep r4 Bx) hb2
      have F2 : ∀ o, w2.frozen? ⟨w.heap.size, o, none⟩ = false := fun o => (hb2.frozen (p := ⟨w.heap.size, o, none⟩) (by show w.heap.size < _; omega)).trans ((Bx.frozen (p := ⟨w.heap.size, o, none⟩) zw).trans (F o))
      have B2 : Below w.heap.size w w2 := bt (bt hB Bx) hb2
      clear r0 r1 r2 r3 r4 F
      go_wp2
      go_roundw
      case rel => exact ⟨k + 1, by omega, by go_num, B2, by omega, F2, q0, q1, q2, q3, q4⟩
      case measure => simp [intOf]; omega
    · obtain rfl : k = bs.length := by omega
      have hs := sum_any bs (some ⟨b, off, none⟩) cap
      have c9 := fun (W : World) (hb : Below w.heap.size w W) => hs W (HP.out.mono hb) h1 h2 (fun j hj => (HG.out j hj).1)
      rw [HB0.out] at c9
      simp only at c9
      obtain ⟨sc, hsc⟩ : ∃ z, tsum Bk.c bs = z := ⟨_, rfl⟩
      obtain ⟨sn, hsn⟩ : ∃ z, tsum Bk.n bs = z := ⟨_, rfl⟩
      obtain ⟨sl, hsl⟩ : ∃ z, tsum Bk.l bs = z := ⟨_, rfl⟩
      rw [hsc, hsn, hsl] at c9 
      have HLo := HL.out
      rw [hsc, hsn, hsl, HB0.out] at HLo
      simp only at HLo
      have OKS := Lib.hid HLo
      have C9 := Lib.hid c9
      have E1 := Lib.hid hsc
      have E2 := Lib.hid hsn
      have E3 := Lib.hid hsl
      clear c9 hs hsc hsn hsl HLo HL
      go_wp2_with fail
      refine (C9.out _ (by (repeat' (first | (with_reducible exact Below.refl _ _) | (with_reducible assumption) | (with_reducible refine Below.alloc ?_ ?_ _) | (with_reducible refine Below.drew ?_) | (with_reducible refine below_dn ?_) | (with_reducible refine Below.setCell ?_ ?_ _) | (with_reducible exact Nat.le_refl _) | omega | (simp only [World.size_alloc, World.size_setCell, World.size_drew]; omega) | (simp; omega) | (simp; done))))).mono ?_
      rintro e w2 ⟨rfl, hb2⟩
      have zq := hb2.size
      have B2 : Below w.heap.size w w2 := bt (by (repeat' (first | (with_reducible exact Below.refl _ _) | (with_reducible assumption) | (with_reducible refine Below.alloc ?_ ?_ _) | (with_reducible refine Below.drew ?_) | (with_reducible refine below_dn ?_) | (with_reducible refine Below.setCell ?_ ?_ _) | (with_reducible exact Nat.le_refl _) | omega | (simp only [World.size_alloc, World.size_setCell, World.size_drew]; omega) | (simp; omega) | (simp; done)))) hb2
      have q0 : w2.cell? ⟨w.heap.size, 0, none⟩ = some (.int .i64 0) := keep r0 hb2
      have q1 : w2.cell? ⟨w.heap.size, 1, none⟩ = some (.int .i64 0) := keep r1 hb2
      have q2 : w2.cell? ⟨w.heap.size, 2, none⟩ = some (.int .i64 0) := keep r2 hb2
      have q3 : w2.cell? ⟨w.heap.size, 3, none⟩ = some (.int .i64 0) := keep r3 hb2
      have q4 : w2.cell? ⟨w.heap.size, 4, none⟩ = some (.int .i64 0) := keep r4 hb2
      have F2 : ∀ o, w2.frozen? ⟨w.heap.size, o, none⟩ = false := fun o => (hb2.frozen (p := ⟨w.heap.size, o, none⟩) zw).trans (F o)
      have zw2 : w.heap.size < w2.heap.size := by omega
      clear r0 r1 r2 r3 r4 F
      go_wp2_with fail
      refine (valid_no _ _ _ _ _ _ OKS.out).mono ?_
      rintro e w3 ⟨rfl, hb3⟩
      have zq3 := hb3.size
      simp at zq3
      have B3 : Below w.heap.size w w3 := bt (by (repeat' (first | (with_reducible exact Below.refl _ _) | (with_reducible assumption) | (with_reducible refine Below.alloc ?_ ?_ _) | (with_reducible refine Below.drew ?_) | (with_reducible refine below_dn ?_) | (with_reducible refine Below.setCell ?_ ?_ _) | (with_reducible exact Nat.le_refl _) | omega | (simp only [World.size_alloc, World.size_setCell, World.size_drew]; omega) | (simp; omega) | (simp; done)))) hb3
      have p0 : w3.cell? ⟨w.heap.size, 0, none⟩ = some (.int .i64 0) := keep (by rw [World.cell?_alloc_past _ _ _ zw2]; exact q0) hb3
      have p1 : w3.cell? ⟨w.heap.size, 1, none⟩ = some (.int .i64 0) := keep (by rw [World.cell?_alloc_past _ _ _ zw2]; exact q1) hb3
      have p2 : w3.cell? ⟨w.heap.size, 2, none⟩ = some (.int .i64 0) := keep (by rw [World.cell?_alloc_past _ _ _ zw2]; exact q2) hb3
      have p3 : w3.cell? ⟨w.heap.size, 3, none⟩ = some (.int .i64 0) := keep (by rw [World.cell?_alloc_past _ _ _ zw2]; exact q3) hb3
      have p4 : w3.cell? ⟨w.heap.size, 4, none⟩ = some (.int .i64 0) := keep (by rw [World.cell?_alloc_past _ _ _ zw2]; exact q4) hb3
      have m0 : w3.cell? ⟨w2.heap.size, 0, none⟩ = some (.int .i64 sc) := keep (by simp [go_sem]) hb3
      have m1 : w3.cell? ⟨w2.heap.size, 1, none⟩ = some (.int .i64 sn) := keep (by simp [go_sem]) hb3
      have m2 : w3.cell? ⟨w2.heap.size, 2, none⟩ = some (.int .i64 d0) := keep (by simp [go_sem]) hb3
      have m3 : w3.cell? ⟨w2.heap.size, 3, none⟩ = some (.int .i64 sl) := keep (by simp [go_sem]) hb3
      have m4 : w3.cell? ⟨w2.heap.size, 4, none⟩ = some (.int .i64 t0) := keep (by simp [go_sem]) hb3
      have F3 : ∀ o, w3.frozen? ⟨w.heap.size, o, none⟩ = false := fun o => (hb3.frozen (p := ⟨w.heap.size, o, none⟩) (by simp; omega)).trans ((frozen?_alloc_cells _ _ _ _).trans (F2 o))
      clear q0 q1 q2 q3 q4 F2
      go_wp2
      refine bodyPost_ret (v := .tuple #[bk 0 0 0 0 0, .int .i64 1]) (by simp [results, Try.results25, go_sem, p0, p1, p2, p3, p4]; try rfl) rfl ⟨rfl, by (repeat' (first | (with_reducible exact Below.refl _ _) | (with_reducible assumption) | (with_reducible refine Below.alloc ?_ ?_ _) | (with_reducible refine Below.drew ?_) | (with_reducible refine below_dn ?_) | (with_reducible refine Below.setCell ?_ ?_ _) | (with_reducible exact Nat.le_refl _) | omega | (simp only [World.size_alloc, World.size_setCell, World.size_drew]; omega) | (simp; omega) | (simp; done)))⟩
end Go.Proofs.Ytigalbgailnicaa
