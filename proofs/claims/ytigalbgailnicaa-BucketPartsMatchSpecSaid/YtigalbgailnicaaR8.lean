/- The reference's Merge. -/
import Derived.Test.YtigalbgailnicaaR3
import Derived.StillTailTactics
namespace Go.Proofs.Ytigalbgailnicaa
set_option linter.unusedVariables false
set_option linter.unusedSimpArgs false
open Go.RowKit Go.Sort
set_option maxHeartbeats 600000 in
theorem mergeref_len (bs : List Bk) (a : Option Addr) (cap : Nat) (w : World) (hm : bs.length ≤ 9223372036854775807) (h : bs.length < 1 ∨ 64 < bs.length) :
    Calls Try.prog 27 #[.slice a bs.length cap] w fun e w' => e = .returned (made 0 0 0 0 0 1) ∧ Below w.heap.size w w' := by
  rcases h with h | h
  · have h1 : (bs.length : Int) < 1 := by omega
    have h2 : ¬ (64 : Int) < bs.length := by omega
    go_enter Try.func27, Try.ntmps27
    go_wp2
    refine bodyPost_ret (v := made 0 0 0 0 0 1) (by simp [results, Try.results27, go_sem]; try rfl) rfl ⟨rfl, by (repeat' (first | (with_reducible exact Below.refl _ _) | (with_reducible assumption) | (with_reducible refine Below.alloc ?_ ?_ _) | (with_reducible refine Below.drew ?_) | (with_reducible refine below_dn ?_) | (with_reducible refine Below.setCell ?_ ?_ _) | (with_reducible exact Nat.le_refl _) | omega | (simp only [World.size_alloc, World.size_setCell, World.size_drew]; omega) | (simp; omega) | (simp; done)))⟩
  · have h1 : ¬ (bs.length : Int) < 1 := by omega
    have h2 : (64 : Int) < bs.length := by omega
    go_enter Try.func27, Try.ntmps27
    go_wp2
    refine bodyPost_ret (v := made 0 0 0 0 0 1) (by simp [results, Try.results27, go_sem]; try rfl) rfl ⟨rfl, by (repeat' (first | (with_reducible exact Below.refl _ _) | (with_reducible assumption) | (with_reducible refine Below.alloc ?_ ?_ _) | (with_reducible refine Below.drew ?_) | (with_reducible refine below_dn ?_) | (with_reducible refine Below.setCell ?_ ?_ _) | (with_reducible exact Nat.le_refl _) | omega | (simp only [World.size_alloc, World.size_setCell, World.size_drew]; omega) | (simp; omega) | (simp; done)))⟩
theorem tsum_bdM (f : Bk → Int) (m : Int) (hm : 0 ≤ m) (bs : List Bk) (M : Nat) (hM : M ≤ bs.length) (h : ∀ k, k < M → 0 ≤ f (bs.getD k Bk.zero) ∧ f (bs.getD k Bk.zero) ≤ m) : ∀ k, k ≤ M → 0 ≤ tsum f (bs.take k) ∧ tsum f (bs.take k) ≤ m * k := by
  intro k hk
  have h0 := tsum_bd f m hm (bs.take M) (fun j hj => by
    rw [List.length_take] at hj
    have e : (bs.take M).getD j Bk.zero = bs.getD j Bk.zero := by simp [List.getD_eq_getElem?_getD, List.getElem?_take, show j < M by omega]
    rw [e]
    exact h j (by omega)) k (by rw [List.length_take]; omega)
  rwa [List.take_take, Nat.min_eq_left hk] at h0
set_option maxRecDepth 100000 in
set_option maxHeartbeats 12000000 in
theorem mergeref_ok (bs : List Bk) (a : Option Addr) (cap M : Nat) (w : World) (hp : BktsA w a bs) (h1 : 1 ≤ bs.length) (h2 : bs.length ≤ 64) (hgood : ∀ k, k < M → Goes bs k) (hM : M = bs.length) (hlast : OkB (tsum Bk.c bs) (tsum Bk.n bs) (bs.getD 0 Bk.zero).d (tsum Bk.l bs) (bs.getD 0 Bk.zero).a) :
    Calls Try.prog 27 #[.slice a bs.length cap] w fun e w' => e = .returned (made (tsum Bk.c bs) (tsum Bk.n bs) (bs.getD 0 Bk.zero).d (tsum Bk.l bs) (bs.getD 0 Bk.zero).a 0) ∧ Below w.heap.size w w' := by
  have hMl : M ≤ bs.length := by omega
  have BC := Lib.hid (tsum_bdM Bk.c 1073741824 (by omega) bs M hMl (fun k hk => ⟨(hgood k hk).1.1, (hgood k hk).1.2.1⟩))
  have BN := Lib.hid (tsum_bdM Bk.n 1048576 (by omega) bs M hMl (fun k hk => ⟨(hgood k hk).1.2.2.1, (hgood k hk).1.2.2.2.1⟩))
  have BL := Lib.hid (tsum_bdM Bk.l 1125899906842624 (by omega) bs M hMl (fun k hk => ⟨(hgood k hk).1.2.2.2.2.2.2.1, by have := (hgood k hk).1.2.2.2.2.2.2.2.1; have := (hgood k hk).1.prod; omega⟩))
  have HP := Lib.hid hp; clear hp
  have HG := Lib.hid hgood; clear hgood
  have HL := Lib.hid hlast; clear hlast
  obtain ⟨b, off, rfl, x0, x1, x2, x3, x4⟩ := HP.out 0 (by omega)
  have zb := block_lt_of_cell x0
  simp only at zb
  obtain ⟨⟨c0, n0, d0, l0, t0⟩, hb0⟩ : ∃ z, bs.getD 0 Bk.zero = z := ⟨_, rfl⟩
  rw [hb0] at x0 x1 x2 x3 x4
  simp only [Nat.zero_mul, Nat.add_zero] at x0 x1 x2 x3 x4
  have HB0 := Lib.hid hb0; clear hb0
  have hpos : 0 < bs.length := by omega
  have hposI : (0 : Int) < (bs.length : Int) := by omega
  have hposB : decide (0 < bs.length) = true := decide_eq_true hpos
  have i1 : ¬ (bs.length : Int) < 1 := by omega
  have i2 : ¬ (64 : Int) < bs.length := by omega
  go_enter Try.func27, Try.ntmps27
  go_upto_region 3 with (fail)
  go_region
  go_wp2
  go_loopw [4] (fun i wr => ∃ k : Nat, k ≤ M ∧ i = .int .i64 k ∧ Below w.heap.size w wr ∧ w.heap.size + 1 < wr.heap.size ∧ Hid (∀ o, wr.frozen? ⟨w.heap.size, o, none⟩ = false) ∧ Hid (∀ o, wr.frozen? ⟨w.heap.size + 1, o, none⟩ = false) ∧
    (∃ C N L : Int, wr.cell? ⟨w.heap.size + 1, 0, none⟩ = some (.int .i64 C) ∧ wr.cell? ⟨w.heap.size + 1, 1, none⟩ = some (.int .i64 N) ∧ wr.cell? ⟨w.heap.size + 1, 2, none⟩ = some (.int .i64 d0) ∧ wr.cell? ⟨w.heap.size + 1, 3, none⟩ = some (.int .i64 L) ∧ wr.cell? ⟨w.heap.size + 1, 4, none⟩ = some (.int .i64 t0) ∧
      Hid (C = tsum Bk.c (bs.take k) ∧ N = tsum Bk.n (bs.take k) ∧ L = tsum Bk.l (bs.take k))) ∧
    wr.cell? ⟨w.heap.size, 0, none⟩ = some (.int .i64 0) ∧ wr.cell? ⟨w.heap.size, 1, none⟩ = some (.int .i64 0) ∧ wr.cell? ⟨w.heap.size, 2, none⟩ = some (.int .i64 0) ∧ wr.cell? ⟨w.heap.size, 3, none⟩ = some (.int .i64 0) ∧ wr.cell? ⟨w.heap.size, 4, none⟩ = some (.int .i64 0) ∧ wr.cell? ⟨w.heap.size, 5, none⟩ = some (.int .i64 0)) (fun i _ => bs.length - (intOf i).toNat)
  case atStart =>
    exact ⟨0, by omega, rfl, by (repeat' (first | (with_reducible exact Below.refl _ _) | (with_reducible assumption) | (with_reducible refine Below.alloc ?_ ?_ _) | (with_reducible refine Below.drew ?_) | (with_reducible refine below_dn ?_) | (with_reducible refine Below.setCell ?_ ?_ _) | (with_reducible exact Nat.le_refl _) | omega | (simp only [World.size_alloc, World.size_setCell, World.size_drew]; omega) | (simp; omega) | (simp; done))), by simp, fun o => by simp [go_sem], fun o => by simp [go_sem], ⟨0, 0, 0, by simp [go_sem], by simp [go_sem], by simp [go_sem], by simp [go_sem], by simp [go_sem], by simp [tsum], by simp [tsum], by simp [tsum]⟩,
      by simp [go_sem], by simp [go_sem], by simp [go_sem], by simp [go_sem], by simp [go_sem], by simp [go_sem]⟩
  case round =>
    obtain ⟨k, hk, rfl, hB, hSz, hfw, hfS, ⟨C, N, L, s0, s1, s2, s3, s4, hCNL⟩, r0, r1, r2, r3, r4, r5⟩ := hrel
    obtain ⟨c1, c2⟩ := BC.out k hk
    obtain ⟨n1, n2⟩ := BN.out k hk
    obtain ⟨l1, l2⟩ := BL.out k hk
    rw [← hCNL.out.1] at c1 c2
    rw [← hCNL.out.2.1] at n1 n2
    rw [← hCNL.out.2.2] at l1 l2
    have hk64 : k ≤ 64 := by omega
    have zb' := Nat.lt_of_lt_of_le zb hB.size
    by_cases hlt : k < M
    · have hlb : k < bs.length := by omega
      obtain ⟨b', off', he, e0, e1, e2, e3, e4⟩ := HP.out k hlb
      simp only [Option.some.injEq, Addr.mk.injEq, and_true] at he
      obtain ⟨rfl, rfl⟩ := he
      have t1 := tsum_take Bk.c bs k hlb
      have t2 := tsum_take Bk.n bs k hlb
      have t3 := tsum_take Bk.l bs k hlb
      have e0 := keep e0 hB; have e1 := keep e1 hB; have e2 := keep e2 hB; have e3 := keep e3 hB; have e4 := keep e4 hB
      have gk := HG.out k hlt
      unfold Goes at gk
      rw [HB0.out] at gk
      obtain ⟨⟨c, n, d, l, t⟩, hb⟩ : ∃ z, bs.getD k Bk.zero = z := ⟨_, rfl⟩
      rw [hb] at e0 e1 e2 e3 e4 gk t1 t2 t3
      simp only at e0 e1 e2 e3 e4 gk t1 t2 t3
      obtain ⟨ok, hd, ht⟩ := gk
      subst hd ht
      have OK := Lib.hid (show OkB c n d l t from ok)
      obtain ⟨u1, u2, u3, u4, u5, u6, u7, u8, u9, u10⟩ := OK.out
      have u8' : l ≤ 1125899906842624 := by have := OK.out.prod; omega
      rw [← hCNL.out.1] at t1
      rw [← hCNL.out.2.1] at t2
      rw [← hCNL.out.2.2] at t3
      have T := Lib.hid (And.intro t1.symm (And.intro t2.symm t3.symm))
      have Fsq := hfS.out
      clear hb ok u8 t1 t2 t3 hCNL
      go_upto_region 7 with (fail)
      have gc := grow_cell
      refine wp_region_quiet_below (by kernel_rfl) (by kernel_rfl) ?_
      repeat (quiet_step ((go_at_call 21; with_reducible exact Calls.regrown_of (validref_yes _ _ _ _ _ _ OK.out))))
      refine wpQuiet_nil ?_
      intro w2 hw'
      obtain ⟨⟨dq, osq⟩, hw''⟩ := hw'
      have hb2 := below_of_grow hw''
      clear hw'' gc
      have zq := hb2.size
      have e0 := keep e0 hb2; have e1 := keep e1 hb2; have e3 := keep e3 hb2
      have s0 := keep s0 hb2; have s1 := keep s1 hb2; have s2 := keep s2 hb2; have s3 := keep s3 hb2; have s4 := keep s4 hb2
      have r0 := keep r0 hb2; have r1 := keep r1 hb2; have r2 := keep r2 hb2; have r3 := keep r3 hb2; have r4 := keep r4 hb2; have r5 := keep r5 hb2
      have F2w : ∀ o, w2.frozen? ⟨w.heap.size, o, none⟩ = false := fun o => (hb2.frozen (p := ⟨w.heap.size, o, none⟩) (by show w.heap.size < _; omega)).trans (hfw.out o)
      have F2 : ∀ o, w2.frozen? ⟨w.heap.size + 1, o, none⟩ = false := fun o => (hb2.frozen (p := ⟨w.heap.size + 1, o, none⟩) (by show w.heap.size + 1 < _; omega)).trans (Fsq o)
      have B2 : Below w.heap.size w w2 := bt hB hb2
      have zS2 : w.heap.size + 1 < w2.heap.size := by omega
      have zb2 : b < w2.heap.size := by omega
      have F2W := Lib.hid F2w
      clear Fsq hfS hfw hB hb2 F2w
      go_wp2
      go_region
      go_wp2
      go_region
      go_wp2
      go_region
      go_wp2
      go_roundw
      case rel =>
        refine ⟨k + 1, by omega, by go_num, by (repeat' (first | (with_reducible exact Below.refl _ _) | (with_reducible assumption) | (with_reducible refine Below.alloc ?_ ?_ _) | (with_reducible refine Below.drew ?_) | (with_reducible refine below_dn ?_) | (with_reducible refine Below.setCell ?_ ?_ _) | (with_reducible exact Nat.le_refl _) | omega | (simp only [World.size_alloc, World.size_setCell, World.size_drew]; omega) | (simp; omega) | (simp; done))), by simp; omega, ?_, ?_, ⟨C + c, N + n, L + l, ?_, ?_, ?_, ?_, ?_, T.out⟩, ?_, ?_, ?_, ?_, ?_, ?_⟩
        · intro o; show World.frozen? _ _ = _; first | (simp [go_sem, F2W.out]; done) | (simp only [World.frozen?_setCell]; exact F2W.out o)
        · intro o; show World.frozen? _ _ = _; first | (simp [go_sem, F2]; done) | (simp only [World.frozen?_setCell]; exact F2 o)
        all_goals first | (go_cell; done) | (simp [go_sem, *]; done)
      case measure => simp [intOf]; omega
    · obtain rfl : k = M := by omega
      subst hM
      have hC := hCNL.out
      rw [List.take_length] at hC
      have HLo := HL.out
      rw [← hC.1, ← hC.2.1, ← hC.2.2, HB0.out] at HLo
      simp only at HLo
      have OKS := Lib.hid HLo
      have E1 := Lib.hid hC
      clear hC HLo HL hCNL
      have FW := hfw.out
      go_wp2_with fail
      refine (validref_yes _ _ _ _ _ _ OKS.out).mono ?_
      rintro e w2 ⟨rfl, hb2⟩
      have zq := hb2.size
      have B2 : Below w.heap.size w w2 := bt (by (repeat' (first | (with_reducible exact Below.refl _ _) | (with_reducible assumption) | (with_reducible refine Below.alloc ?_ ?_ _) | (with_reducible refine Below.drew ?_) | (with_reducible refine below_dn ?_) | (with_reducible refine Below.setCell ?_ ?_ _) | (with_reducible exact Nat.le_refl _) | omega | (simp only [World.size_alloc, World.size_setCell, World.size_drew]; omega) | (simp; omega) | (simp; done)))) hb2
      have r0 := keep r0 hb2; have r1 := keep r1 hb2; have r2 := keep r2 hb2; have r3 := keep r3 hb2; have r4 := keep r4 hb2; have r5 := keep r5 hb2
      have s0 := keep s0 hb2; have s1 := keep s1 hb2; have s2 := keep s2 hb2; have s3 := keep s3 hb2; have s4 := keep s4 hb2
      have F2 : ∀ o, w2.frozen? ⟨w.heap.size, o, none⟩ = false := fun o => (hb2.frozen (p := ⟨w.heap.size, o, none⟩) (by show w.heap.size < _; omega)).trans (FW o)
      have zw2 : w.heap.size < w2.heap.size := by omega
      clear FW hb2
      go_wp2
      refine bodyPost_ret (v := made C N d0 L t0 0) (by simp [results, Try.results27, go_sem, r0, r1, r2, r3, r4, r5, F2, zw2]; try rfl) rfl ⟨by rw [E1.out.1, E1.out.2.1, E1.out.2.2, HB0.out], by (repeat' (first | (with_reducible exact Below.refl _ _) | (with_reducible assumption) | (with_reducible refine Below.alloc ?_ ?_ _) | (with_reducible refine Below.drew ?_) | (with_reducible refine below_dn ?_) | (with_reducible refine Below.setCell ?_ ?_ _) | (with_reducible exact Nat.le_refl _) | omega | (simp only [World.size_alloc, World.size_setCell, World.size_drew]; omega) | (simp; omega) | (simp; done)))⟩
set_option maxRecDepth 100000 in
set_option maxHeartbeats 12000000 in
theorem mergeref_no (bs : List Bk) (a : Option Addr) (cap M : Nat) (w : World) (hp : BktsA w a bs) (h1 : 1 ≤ bs.length) (h2 : bs.length ≤ 64) (hgood : ∀ k, k < M → Goes bs k) (hM : M = bs.length) (hlast : ¬ OkB (tsum Bk.c bs) (tsum Bk.n bs) (bs.getD 0 Bk.zero).d (tsum Bk.l bs) (bs.getD 0 Bk.zero).a) :
    Calls Try.prog 27 #[.slice a bs.length cap] w fun e w' => e = .returned (made 0 0 0 0 0 1) ∧ Below w.heap.size w w' := by
  have hMl : M ≤ bs.length := by omega
  have BC := Lib.hid (tsum_bdM Bk.c 1073741824 (by omega) bs M hMl (fun k hk => ⟨(hgood k hk).1.1, (hgood k hk).1.2.1⟩))
  have BN := Lib.hid (tsum_bdM Bk.n 1048576 (by omega) bs M hMl (fun k hk => ⟨(hgood k hk).1.2.2.1, (hgood k hk).1.2.2.2.1⟩))
  have BL := Lib.hid (tsum_bdM Bk.l 1125899906842624 (by omega) bs M hMl (fun k hk => ⟨(hgood k hk).1.2.2.2.2.2.2.1, by have := (hgood k hk).1.2.2.2.2.2.2.2.1; have := (hgood k hk).1.prod; omega⟩))
  have HP := Lib.hid hp; clear hp
  have HG := Lib.hid hgood; clear hgood
  have HL := Lib.hid hlast; clear hlast
  obtain ⟨b, off, rfl, x0, x1, x2, x3, x4⟩ := HP.out 0 (by omega)
  have zb := block_lt_of_cell x0
  simp only at zb
  obtain ⟨⟨c0, n0, d0, l0, t0⟩, hb0⟩ : ∃ z, bs.getD 0 Bk.zero = z := ⟨_, rfl⟩
  rw [hb0] at x0 x1 x2 x3 x4
  simp only [Nat.zero_mul, Nat.add_zero] at x0 x1 x2 x3 x4
  have HB0 := Lib.hid hb0; clear hb0
  have hpos : 0 < bs.length := by omega
  have hposI : (0 : Int) < (bs.length : Int) := by omega
  have hposB : decide (0 < bs.length) = true := decide_eq_true hpos
  have i1 : ¬ (bs.length : Int) < 1 := by omega
  have i2 : ¬ (64 : Int) < bs.length := by omega
  go_enter Try.func27, Try.ntmps27
  go_upto_region 3 with (fail)
  go_region
  go_wp2
  go_loopw [4] (fun i wr => ∃ k : Nat, k ≤ M ∧ i = .int .i64 k ∧ Below w.heap.size w wr ∧ w.heap.size + 1 < wr.heap.size ∧ Hid (∀ o, wr.frozen? ⟨w.heap.size, o, none⟩ = false) ∧ Hid (∀ o, wr.frozen? ⟨w.heap.size + 1, o, none⟩ = false) ∧
    (∃ C N L : Int, wr.cell? ⟨w.heap.size + 1, 0, none⟩ = some (.int .i64 C) ∧ wr.cell? ⟨w.heap.size + 1, 1, none⟩ = some (.int .i64 N) ∧ wr.cell? ⟨w.heap.size + 1, 2, none⟩ = some (.int .i64 d0) ∧ wr.cell? ⟨w.heap.size + 1, 3, none⟩ = some (.int .i64 L) ∧ wr.cell? ⟨w.heap.size + 1, 4, none⟩ = some (.int .i64 t0) ∧
      Hid (C = tsum Bk.c (bs.take k) ∧ N = tsum Bk.n (bs.take k) ∧ L = tsum Bk.l (bs.take k))) ∧
    wr.cell? ⟨w.heap.size, 0, none⟩ = some (.int .i64 0) ∧ wr.cell? ⟨w.heap.size, 1, none⟩ = some (.int .i64 0) ∧ wr.cell? ⟨w.heap.size, 2, none⟩ = some (.int .i64 0) ∧ wr.cell? ⟨w.heap.size, 3, none⟩ = some (.int .i64 0) ∧ wr.cell? ⟨w.heap.size, 4, none⟩ = some (.int .i64 0) ∧ wr.cell? ⟨w.heap.size, 5, none⟩ = some (.int .i64 0)) (fun i _ => bs.length - (intOf i).toNat)
  case atStart =>
    exact ⟨0, by omega, rfl, by (repeat' (first | (with_reducible exact Below.refl _ _) | (with_reducible assumption) | (with_reducible refine Below.alloc ?_ ?_ _) | (with_reducible refine Below.drew ?_) | (with_reducible refine below_dn ?_) | (with_reducible refine Below.setCell ?_ ?_ _) | (with_reducible exact Nat.le_refl _) | omega | (simp only [World.size_alloc, World.size_setCell, World.size_drew]; omega) | (simp; omega) | (simp; done))), by simp, fun o => by simp [go_sem], fun o => by simp [go_sem], ⟨0, 0, 0, by simp [go_sem], by simp [go_sem], by simp [go_sem], by simp [go_sem], by simp [go_sem], by simp [tsum], by simp [tsum], by simp [tsum]⟩,
      by simp [go_sem], by simp [go_sem], by simp [go_sem], by simp [go_sem], by simp [go_sem], by simp [go_sem]⟩
  case round =>
    obtain ⟨k, hk, rfl, hB, hSz, hfw, hfS, ⟨C, N, L, s0, s1, s2, s3, s4, hCNL⟩, r0, r1, r2, r3, r4, r5⟩ := hrel
    obtain ⟨c1, c2⟩ := BC.out k hk
    obtain ⟨n1, n2⟩ := BN.out k hk
    obtain ⟨l1, l2⟩ := BL.out k hk
    rw [← hCNL.out.1] at c1 c2
    rw [← hCNL.out.2.1] at n1 n2
    rw [← hCNL.out.2.2] at l1 l2
    have hk64 : k ≤ 64 := by omega
    have zb' := Nat.lt_of_lt_of_le zb hB.size
    by_cases hlt : k < M
    · have hlb : k < bs.length := by omega
      obtain ⟨b', off', he, e0, e1, e2, e3, e4⟩ := HP.out k hlb
      simp only [Option.some.injEq, Addr.mk.injEq, and_true] at he
      obtain ⟨rfl, rfl⟩ := he
      have t1 := tsum_take Bk.c bs k hlb
      have t2 := tsum_take Bk.n bs k hlb
      have t3 := tsum_take Bk.l bs k hlb
      have e0 := keep e0 hB; have e1 := keep e1 hB; have e2 := keep e2 hB; have e3 := keep e3 hB; have e4 := keep e4 hB
      have gk := HG.out k hlt
      unfold Goes at gk
      rw [HB0.out] at gk
      obtain ⟨⟨c, n, d, l, t⟩, hb⟩ : ∃ z, bs.getD k Bk.zero = z := ⟨_, rfl⟩
      rw [hb] at e0 e1 e2 e3 e4 gk t1 t2 t3
      simp only at e0 e1 e2 e3 e4 gk t1 t2 t3
      obtain ⟨ok, hd, ht⟩ := gk
      subst hd ht
      have OK := Lib.hid (show OkB c n d l t from ok)
      obtain ⟨u1, u2, u3, u4, u5, u6, u7, u8, u9, u10⟩ := OK.out
      have u8' : l ≤ 1125899906842624 := by have := OK.out.prod; omega
      rw [← hCNL.out.1] at t1
      rw [← hCNL.out.2.1] at t2
      rw [← hCNL.out.2.2] at t3
      have T := Lib.hid (And.intro t1.symm (And.intro t2.symm t3.symm))
      have Fsq := hfS.out
      clear hb ok u8 t1 t2 t3 hCNL
      go_upto_region 7 with (fail)
      have gc := grow_cell
      refine wp_region_quiet_below (by kernel_rfl) (by kernel_rfl) ?_
      repeat (quiet_step ((go_at_call 21; with_reducible exact Calls.regrown_of (validref_yes _ _ _ _ _ _ OK.out))))
      refine wpQuiet_nil ?_
      intro w2 hw'
      obtain ⟨⟨dq, osq⟩, hw''⟩ := hw'
      have hb2 := below_of_grow hw''
      clear hw'' gc
      have zq := hb2.size
      have e0 := keep e0 hb2; have e1 := keep e1 hb2; have e3 := keep e3 hb2
      have s0 := keep s0 hb2; have s1 := keep s1 hb2; have s2 := keep s2 hb2; have s3 := keep s3 hb2; have s4 := keep s4 hb2
      have r0 := keep r0 hb2; have r1 := keep r1 hb2; have r2 := keep r2 hb2; have r3 := keep r3 hb2; have r4 := keep r4 hb2; have r5 := keep r5 hb2
      have F2w : ∀ o, w2.frozen? ⟨w.heap.size, o, none⟩ = false := fun o => (hb2.frozen (p := ⟨w.heap.size, o, none⟩) (by show w.heap.size < _; omega)).trans (hfw.out o)
      have F2 : ∀ o, w2.frozen? ⟨w.heap.size + 1, o, none⟩ = false := fun o => (hb2.frozen (p := ⟨w.heap.size + 1, o, none⟩) (by show w.heap.size + 1 < _; omega)).trans (Fsq o)
      have B2 : Below w.heap.size w w2 := bt hB hb2
      have zS2 : w.heap.size + 1 < w2.heap.size := by omega
      have zb2 : b < w2.heap.size := by omega
      have F2W := Lib.hid F2w
      clear Fsq hfS hfw hB hb2 F2w
      go_wp2
      go_region
      go_wp2
      go_region
      go_wp2
      go_region
      go_wp2
      go_roundw
      case rel =>
        refine ⟨k + 1, by omega, by go_num, by (repeat' (first | (with_reducible exact Below.refl _ _) | (with_reducible assumption) | (with_reducible refine Below.alloc ?_ ?_ _) | (with_reducible refine Below.drew ?_) | (with_reducible refine below_dn ?_) | (with_reducible refine Below.setCell ?_ ?_ _) | (with_reducible exact Nat.le_refl _) | omega | (simp only [World.size_alloc, World.size_setCell, World.size_drew]; omega) | (simp; omega) | (simp; done))), by simp; omega, ?_, ?_, ⟨C + c, N + n, L + l, ?_, ?_, ?_, ?_, ?_, T.out⟩, ?_, ?_, ?_, ?_, ?_, ?_⟩
        · intro o; show World.frozen? _ _ = _; first | (simp [go_sem, F2W.out]; done) | (simp only [World.frozen?_setCell]; exact F2W.out o)
        · intro o; show World.frozen? _ _ = _; first | (simp [go_sem, F2]; done) | (simp only [World.frozen?_setCell]; exact F2 o)
        all_goals first | (go_cell; done) | (simp [go_sem, *]; done)
      case measure => simp [intOf]; omega
    · obtain rfl : k = M := by omega
      subst hM
      have hC := hCNL.out
      rw [List.take_length] at hC
      have HLo := HL.out
      rw [← hC.1, ← hC.2.1, ← hC.2.2, HB0.out] at HLo
      simp only at HLo
      have OKS := Lib.hid HLo
      have E1 := Lib.hid hC
      clear hC HLo HL hCNL
      have FW := hfw.out
      go_wp2_with fail
      refine (validref_no _ _ _ _ _ _ OKS.out).mono ?_
      rintro e w2 ⟨rfl, hb2⟩
      have zq := hb2.size
      have B2 : Below w.heap.size w w2 := bt (by (repeat' (first | (with_reducible exact Below.refl _ _) | (with_reducible assumption) | (with_reducible refine Below.alloc ?_ ?_ _) | (with_reducible refine Below.drew ?_) | (with_reducible refine below_dn ?_) | (with_reducible refine Below.setCell ?_ ?_ _) | (with_reducible exact Nat.le_refl _) | omega | (simp only [World.size_alloc, World.size_setCell, World.size_drew]; omega) | (simp; omega) | (simp; done)))) hb2
      have r0 := keep r0 hb2; have r1 := keep r1 hb2; have r2 := keep r2 hb2; have r3 := keep r3 hb2; have r4 := keep r4 hb2; have r5 := keep r5 hb2
      have s0 := keep s0 hb2; have s1 := keep s1 hb2; have s2 := keep s2 hb2; have s3 := keep s3 hb2; have s4 := keep s4 hb2
      have F2 : ∀ o, w2.frozen? ⟨w.heap.size, o, none⟩ = false := fun o => (hb2.frozen (p := ⟨w.heap.size, o, none⟩) (by show w.heap.size < _; omega)).trans (FW o)
      have zw2 : w.heap.size < w2.heap.size := by omega
      clear FW hb2
      go_wp2
      refine bodyPost_ret (v := made 0 0 0 0 0 1) (by simp [results, Try.results27, go_sem, r0, r1, r2, r3, r4, r5, F2, zw2]; try rfl) rfl ⟨rfl, by (repeat' (first | (with_reducible exact Below.refl _ _) | (with_reducible assumption) | (with_reducible refine Below.alloc ?_ ?_ _) | (with_reducible refine Below.drew ?_) | (with_reducible refine below_dn ?_) | (with_reducible refine Below.setCell ?_ ?_ _) | (with_reducible exact Nat.le_refl _) | omega | (simp only [World.size_alloc, World.size_setCell, World.size_drew]; omega) | (simp; omega) | (simp; done)))⟩
set_option maxRecDepth 100000 in
set_option maxHeartbeats 12000000 in
theorem mergeref_bad (bs : List Bk) (a : Option Addr) (cap M : Nat) (w : World) (hp : BktsA w a bs) (h1 : 1 ≤ bs.length) (h2 : bs.length ≤ 64) (hgood : ∀ k, k < M → Goes bs k) (hM : M < bs.length) (hlast : ¬ Goes bs M) :
    Calls Try.prog 27 #[.slice a bs.length cap] w fun e w' => e = .returned (made 0 0 0 0 0 1) ∧ Below w.heap.size w w' := by
  have hMl : M ≤ bs.length := by omega
  have BC := Lib.hid (tsum_bdM Bk.c 1073741824 (by omega) bs M hMl (fun k hk => ⟨(hgood k hk).1.1, (hgood k hk).1.2.1⟩))
  have BN := Lib.hid (tsum_bdM Bk.n 1048576 (by omega) bs M hMl (fun k hk => ⟨(hgood k hk).1.2.2.1, (hgood k hk).1.2.2.2.1⟩))
  have BL := Lib.hid (tsum_bdM Bk.l 1125899906842624 (by omega) bs M hMl (fun k hk => ⟨(hgood k hk).1.2.2.2.2.2.2.1, by have := (hgood k hk).1.2.2.2.2.2.2.2.1; have := (hgood k hk).1.prod; omega⟩))
  have HP := Lib.hid hp; clear hp
  have HG := Lib.hid hgood; clear hgood
  have HL := Lib.hid hlast; clear hlast
  obtain ⟨b, off, rfl, x0, x1, x2, x3, x4⟩ := HP.out 0 (by omega)
  have zb := block_lt_of_cell x0
  simp only at zb
  obtain ⟨⟨c0, n0, d0, l0, t0⟩, hb0⟩ : ∃ z, bs.getD 0 Bk.zero = z := ⟨_, rfl⟩
  rw [hb0] at x0 x1 x2 x3 x4
  simp only [Nat.zero_mul, Nat.add_zero] at x0 x1 x2 x3 x4
  have HB0 := Lib.hid hb0; clear hb0
  have hpos : 0 < bs.length := by omega
  have hposI : (0 : Int) < (bs.length : Int) := by omega
  have hposB : decide (0 < bs.length) = true := decide_eq_true hpos
  have i1 : ¬ (bs.length : Int) < 1 := by omega
  have i2 : ¬ (64 : Int) < bs.length := by omega
  go_enter Try.func27, Try.ntmps27
  go_upto_region 3 with (fail)
  go_region
  go_wp2
  go_loopw [4] (fun i wr => ∃ k : Nat, k ≤ M ∧ i = .int .i64 k ∧ Below w.heap.size w wr ∧ w.heap.size + 1 < wr.heap.size ∧ Hid (∀ o, wr.frozen? ⟨w.heap.size, o, none⟩ = false) ∧ Hid (∀ o, wr.frozen? ⟨w.heap.size + 1, o, none⟩ = false) ∧
    (∃ C N L : Int, wr.cell? ⟨w.heap.size + 1, 0, none⟩ = some (.int .i64 C) ∧ wr.cell? ⟨w.heap.size + 1, 1, none⟩ = some (.int .i64 N) ∧ wr.cell? ⟨w.heap.size + 1, 2, none⟩ = some (.int .i64 d0) ∧ wr.cell? ⟨w.heap.size + 1, 3, none⟩ = some (.int .i64 L) ∧ wr.cell? ⟨w.heap.size + 1, 4, none⟩ = some (.int .i64 t0) ∧
      Hid (C = tsum Bk.c (bs.take k) ∧ N = tsum Bk.n (bs.take k) ∧ L = tsum Bk.l (bs.take k))) ∧
    wr.cell? ⟨w.heap.size, 0, none⟩ = some (.int .i64 0) ∧ wr.cell? ⟨w.heap.size, 1, none⟩ = some (.int .i64 0) ∧ wr.cell? ⟨w.heap.size, 2, none⟩ = some (.int .i64 0) ∧ wr.cell? ⟨w.heap.size, 3, none⟩ = some (.int .i64 0) ∧ wr.cell? ⟨w.heap.size, 4, none⟩ = some (.int .i64 0) ∧ wr.cell? ⟨w.heap.size, 5, none⟩ = some (.int .i64 0)) (fun i _ => bs.length - (intOf i).toNat)
  case atStart =>
    exact ⟨0, by omega, rfl, by (repeat' (first | (with_reducible exact Below.refl _ _) | (with_reducible assumption) | (with_reducible refine Below.alloc ?_ ?_ _) | (with_reducible refine Below.drew ?_) | (with_reducible refine below_dn ?_) | (with_reducible refine Below.setCell ?_ ?_ _) | (with_reducible exact Nat.le_refl _) | omega | (simp only [World.size_alloc, World.size_setCell, World.size_drew]; omega) | (simp; omega) | (simp; done))), by simp, fun o => by simp [go_sem], fun o => by simp [go_sem], ⟨0, 0, 0, by simp [go_sem], by simp [go_sem], by simp [go_sem], by simp [go_sem], by simp [go_sem], by simp [tsum], by simp [tsum], by simp [tsum]⟩,
      by simp [go_sem], by simp [go_sem], by simp [go_sem], by simp [go_sem], by simp [go_sem], by simp [go_sem]⟩
  case round =>
    obtain ⟨k, hk, rfl, hB, hSz, hfw, hfS, ⟨C, N, L, s0, s1, s2, s3, s4, hCNL⟩, r0, r1, r2, r3, r4, r5⟩ := hrel
    obtain ⟨c1, c2⟩ := BC.out k hk
    obtain ⟨n1, n2⟩ := BN.out k hk
    obtain ⟨l1, l2⟩ := BL.out k hk
    rw [← hCNL.out.1] at c1 c2
    rw [← hCNL.out.2.1] at n1 n2
    rw [← hCNL.out.2.2] at l1 l2
    have hk64 : k ≤ 64 := by omega
    have zb' := Nat.lt_of_lt_of_le zb hB.size
    by_cases hlt : k < M
    · have hlb : k < bs.length := by omega
      obtain ⟨b', off', he, e0, e1, e2, e3, e4⟩ := HP.out k hlb
      simp only [Option.some.injEq, Addr.mk.injEq, and_true] at he
      obtain ⟨rfl, rfl⟩ := he
      have t1 := tsum_take Bk.c bs k hlb
      have t2 := tsum_take Bk.n bs k hlb
      have t3 := tsum_take Bk.l bs k hlb
      have e0 := keep e0 hB; have e1 := keep e1 hB; have e2 := keep e2 hB; have e3 := keep e3 hB; have e4 := keep e4 hB
      have gk := HG.out k hlt
      unfold Goes at gk
      rw [HB0.out] at gk
      obtain ⟨⟨c, n, d, l, t⟩, hb⟩ : ∃ z, bs.getD k Bk.zero = z := ⟨_, rfl⟩
      rw [hb] at e0 e1 e2 e3 e4 gk t1 t2 t3
      simp only at e0 e1 e2 e3 e4 gk t1 t2 t3
      obtain ⟨ok, hd, ht⟩ := gk
      subst hd ht
      have OK := Lib.hid (show OkB c n d l t from ok)
      obtain ⟨u1, u2, u3, u4, u5, u6, u7, u8, u9, u10⟩ := OK.out
      have u8' : l ≤ 1125899906842624 := by have := OK.out.prod; omega
      rw [← hCNL.out.1] at t1
      rw [← hCNL.out.2.1] at t2
      rw [← hCNL.out.2.2] at t3
      have T := Lib.hid (And.intro t1.symm (And.intro t2.symm t3.symm))
      have Fsq := hfS.out
      clear hb ok u8 t1 t2 t3 hCNL
      go_upto_region 7 with (fail)
      have gc := grow_cell
      refine wp_region_quiet_below (by kernel_rfl) (by kernel_rfl) ?_
      repeat (quiet_step ((go_at_call 21; with_reducible exact Calls.regrown_of (validref_yes _ _ _ _ _ _ OK.out))))
      refine wpQuiet_nil ?_
      intro w2 hw'
      obtain ⟨⟨dq, osq⟩, hw''⟩ := hw'
      have hb2 := below_of_grow hw''
      clear hw'' gc
      have zq := hb2.size
      have e0 := keep e0 hb2; have e1 := keep e1 hb2; have e3 := keep e3 hb2
      have s0 := keep s0 hb2; have s1 := keep s1 hb2; have s2 := keep s2 hb2; have s3 := keep s3 hb2; have s4 := keep s4 hb2
      have r0 := keep r0 hb2; have r1 := keep r1 hb2; have r2 := keep r2 hb2; have r3 := keep r3 hb2; have r4 := keep r4 hb2; have r5 := keep r5 hb2
      have F2w : ∀ o, w2.frozen? ⟨w.heap.size, o, none⟩ = false := fun o => (hb2.frozen (p := ⟨w.heap.size, o, none⟩) (by show w.heap.size < _; omega)).trans (hfw.out o)
      have F2 : ∀ o, w2.frozen? ⟨w.heap.size + 1, o, none⟩ = false := fun o => (hb2.frozen (p := ⟨w.heap.size + 1, o, none⟩) (by show w.heap.size + 1 < _; omega)).trans (Fsq o)
      have B2 : Below w.heap.size w w2 := bt hB hb2
      have zS2 : w.heap.size + 1 < w2.heap.size := by omega
      have zb2 : b < w2.heap.size := by omega
      have F2W := Lib.hid F2w
      clear Fsq hfS hfw hB hb2 F2w
      go_wp2
      go_region
      go_wp2
      go_region
      go_wp2
      go_region
      go_wp2
      go_roundw
      case rel =>
        refine ⟨k + 1, by omega, by go_num, by (repeat' (first | (with_reducible exact Below.refl _ _) | (with_reducible assumption) | (with_reducible refine Below.alloc ?_ ?_ _) | (with_reducible refine Below.drew ?_) | (with_reducible refine below_dn ?_) | (with_reducible refine Below.setCell ?_ ?_ _) | (with_reducible exact Nat.le_refl _) | omega | (simp only [World.size_alloc, World.size_setCell, World.size_drew]; omega) | (simp; omega) | (simp; done))), by simp; omega, ?_, ?_, ⟨C + c, N + n, L + l, ?_, ?_, ?_, ?_, ?_, T.out⟩, ?_, ?_, ?_, ?_, ?_, ?_⟩
        · intro o; show World.frozen? _ _ = _; first | (simp [go_sem, F2W.out]; done) | (simp only [World.frozen?_setCell]; exact F2W.out o)
        · intro o; show World.frozen? _ _ = _; first | (simp [go_sem, F2]; done) | (simp only [World.frozen?_setCell]; exact F2 o)
        all_goals first | (go_cell; done) | (simp [go_sem, *]; done)
      case measure => simp [intOf]; omega
    · obtain rfl : k = M := by omega
      obtain ⟨b', off', he, e0, e1, e2, e3, e4⟩ := HP.out k hM
      simp only [Option.some.injEq, Addr.mk.injEq, and_true] at he
      obtain ⟨rfl, rfl⟩ := he
      have e0 := keep e0 hB; have e1 := keep e1 hB; have e2 := keep e2 hB; have e3 := keep e3 hB; have e4 := keep e4 hB
      have gk := HL.out
      unfold Goes at gk
      rw [HB0.out] at gk
      obtain ⟨⟨c, n, d, l, t⟩, hb⟩ : ∃ z, bs.getD k Bk.zero = z := ⟨_, rfl⟩
      rw [hb] at e0 e1 e2 e3 e4 gk
      simp only at e0 e1 e2 e3 e4 gk
      have GK := Lib.hid (show ¬ (OkB c n d l t ∧ d = d0 ∧ t = t0) from gk)
      have hlb : k < bs.length := hM
      clear hb gk hCNL HL
      by_cases ok : OkB c n d l t
      · have OK := Lib.hid ok
        clear ok
        by_cases hd : d = d0
        · subst hd
          have ht : ¬ t = t0 := fun e => GK.out ⟨OK.out, rfl, e⟩
          go_upto_region 7 with (fail)
          have gc := grow_cell
          refine wp_region_quiet_below (by kernel_rfl) (by kernel_rfl) ?_
          repeat (quiet_step ((go_at_call 21; with_reducible exact Calls.regrown_of (validref_yes _ _ _ _ _ _ OK.out))))
          refine wpQuiet_nil ?_
          intro w2 hw'
          obtain ⟨⟨dq, osq⟩, hw''⟩ := hw'
          have hb2 := below_of_grow hw''
          clear hw'' gc
          have zq := hb2.size
          have r0 := keep r0 hb2; have r1 := keep r1 hb2; have r2 := keep r2 hb2; have r3 := keep r3 hb2; have r4 := keep r4 hb2; have r5 := keep r5 hb2
          have F2 : ∀ o, w2.frozen? ⟨w.heap.size, o, none⟩ = false := fun o => (hb2.frozen (p := ⟨w.heap.size, o, none⟩) (by show w.heap.size < _; omega)).trans (hfw.out o)
          have B2 : Below w.heap.size w w2 := bt hB hb2
          have zw2 : w.heap.size < w2.heap.size := by omega
          clear hb2
          go_wp2
          refine bodyPost_ret (v := made 0 0 0 0 0 1) (by simp [results, Try.results27, go_sem, r0, r1, r2, r3, r4, r5, F2, zw2]; try rfl) rfl ⟨rfl, by (repeat' (first | (with_reducible exact Below.refl _ _) | (with_reducible assumption) | (with_reducible refine Below.alloc ?_ ?_ _) | (with_reducible refine Below.drew ?_) | (with_reducible refine below_dn ?_) | (with_reducible refine Below.setCell ?_ ?_ _) | (with_reducible exact Nat.le_refl _) | omega | (simp only [World.size_alloc, World.size_setCell, World.size_drew]; omega) | (simp; omega) | (simp; done)))⟩
        · have hd' : ¬ d = d0 := hd
          go_upto_region 7 with (fail)
          have gc := grow_cell
          refine wp_region_quiet_below (by kernel_rfl) (by kernel_rfl) ?_
          repeat (quiet_step ((go_at_call 21; with_reducible exact Calls.regrown_of (validref_yes _ _ _ _ _ _ OK.out))))
          refine wpQuiet_nil ?_
          intro w2 hw'
          obtain ⟨⟨dq, osq⟩, hw''⟩ := hw'
          have hb2 := below_of_grow hw''
          clear hw'' gc
          have zq := hb2.size
          have r0 := keep r0 hb2; have r1 := keep r1 hb2; have r2 := keep r2 hb2; have r3 := keep r3 hb2; have r4 := keep r4 hb2; have r5 := keep r5 hb2
          have F2 : ∀ o, w2.frozen? ⟨w.heap.size, o, none⟩ = false := fun o => (hb2.frozen (p := ⟨w.heap.size, o, none⟩) (by show w.heap.size < _; omega)).trans (hfw.out o)
          have B2 : Below w.heap.size w w2 := bt hB hb2
          have zw2 : w.heap.size < w2.heap.size := by omega
          clear hb2
          go_wp2
          refine bodyPost_ret (v := made 0 0 0 0 0 1) (by simp [results, Try.results27, go_sem, r0, r1, r2, r3, r4, r5, F2, zw2]; try rfl) rfl ⟨rfl, by (repeat' (first | (with_reducible exact Below.refl _ _) | (with_reducible assumption) | (with_reducible refine Below.alloc ?_ ?_ _) | (with_reducible refine Below.drew ?_) | (with_reducible refine below_dn ?_) | (with_reducible refine Below.setCell ?_ ?_ _) | (with_reducible exact Nat.le_refl _) | omega | (simp only [World.size_alloc, World.size_setCell, World.size_drew]; omega) | (simp; omega) | (simp; done)))⟩
      · have OK := Lib.hid ok
        clear ok
        go_upto_region 7 with (fail)
        have gc := grow_cell
        refine wp_region_quiet_below (by kernel_rfl) (by kernel_rfl) ?_
        repeat (quiet_step ((go_at_call 21; with_reducible exact Calls.regrown_of (validref_no _ _ _ _ _ _ OK.out))))
        refine wpQuiet_nil ?_
        intro w2 hw'
        obtain ⟨⟨dq, osq⟩, hw''⟩ := hw'
        have hb2 := below_of_grow hw''
        clear hw'' gc
        have zq := hb2.size
        have r0 := keep r0 hb2; have r1 := keep r1 hb2; have r2 := keep r2 hb2; have r3 := keep r3 hb2; have r4 := keep r4 hb2; have r5 := keep r5 hb2
        have F2 : ∀ o, w2.frozen? ⟨w.heap.size, o, none⟩ = false := fun o => (hb2.frozen (p := ⟨w.heap.size, o, none⟩) (by show w.heap.size < _; omega)).trans (hfw.out o)
        have B2 : Below w.heap.size w w2 := bt hB hb2
        have zw2 : w.heap.size < w2.heap.size := by omega
        clear hb2
        go_wp2
        refine bodyPost_ret (v := made 0 0 0 0 0 1) (by simp [results, Try.results27, go_sem, r0, r1, r2, r3, r4, r5, F2, zw2]; try rfl) rfl ⟨rfl, by (repeat' (first | (with_reducible exact Below.refl _ _) | (with_reducible assumption) | (with_reducible refine Below.alloc ?_ ?_ _) | (with_reducible refine Below.drew ?_) | (with_reducible refine below_dn ?_) | (with_reducible refine Below.setCell ?_ ?_ _) | (with_reducible exact Nat.le_refl _) | omega | (simp only [World.size_alloc, World.size_setCell, World.size_drew]; omega) | (simp; omega) | (simp; done)))⟩
end Go.Proofs.Ytigalbgailnicaa
