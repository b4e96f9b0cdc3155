/- Contracts: a place among api.Row is found by halving; the list may be out of order. -/
import Derived.Test.YtcgdhankllphgaaK1
import Derived.Test.YtcgdhankllphgaaRoH
namespace Go.Proofs.Ytcgdhankllphgaa
set_option linter.unusedVariables false
set_option linter.unusedSimpArgs false
namespace Ro
open Go.RowKit
set_option maxRecDepth 100000 in
set_option maxHeartbeats 1000000 in
theorem search_any (a : Option Addr) (cap : Nat) (l : List Rw) (y : Rw) (w : World) (hp : RwA w a l) (hm : l.length ≤ 1000000) :
    Calls Try.prog 80 #[.slice a l.length cap, .agg (encR y).toArray, .func (.func 60) #[] #[]] w fun e w' =>
      (∃ (i : Nat) (f : Bool), e = .returned (.tuple #[.int .i64 i, .bool f]) ∧ i ≤ l.length ∧ (f = true → i < l.length) ∧ (Mono (cR y.1 y.2.1) l → i = posC (cR y.1 y.2.1) l ∧ f = hasC (cR y.1 y.2.1) l)) ∧ Below w.heap.size w w' := by
  have HP := Lib.hid hp
  obtain ⟨N, hN⟩ : ∃ N, l.length = N := ⟨_, rfl⟩
  have HE := Lib.hid hN
  have CC := Lib.hid (fun (x : Rw) (W : World) => cmpR_any x y W)
  obtain ⟨c, hc⟩ : ∃ c : Rw → Int, cR y.1 y.2.1 = c := ⟨_, rfl⟩
  have CE := Lib.hid (fun x : Rw => show cR y.1 y.2.1 x = c x by rw [← hc])
  rw [hN] at hm ⊢
  rw [hc]
  have PIS := Lib.hid (show ∀ i, i ≤ l.length → (∀ j, j < i → c (l.getD j r0) < 0) → (i < l.length → 0 ≤ c (l.getD i r0)) → posC c l = i from fun i h0 h1 h2 => posC_is c l i h0 h1 (fun h => by have := h2 h; omega))
  obtain ⟨y1, y2, y3, y4⟩ := y
  simp only [encR] at CC ⊢
  clear hp hN hc
  go_enter Try.func80, Try.ntmps80
  go_wp2
  go_loopw [9, 10, 11] (fun u9 u10 _ wr => ∃ i j : Nat, u9 = .int .i64 i ∧ u10 = .int .i64 j ∧ i ≤ j ∧ j ≤ N ∧ Hid (Mono c l → (∀ k, k < i → c (l.getD k r0) < 0) ∧ (j < l.length → 0 ≤ c (l.getD j r0))) ∧ Hid (Blk wr w.heap.size 72 #[.int .i64 y1, .int .i64 y2, .int .i64 y3, .int .i64 y4]) ∧ Hid (Below w.heap.size w wr)) (fun u9 u10 _ _ => (intOf u10 - intOf u9).toNat)
  case atStart => exact ⟨0, N, rfl, rfl, by omega, by omega, Lib.hid (fun _ => ⟨fun k hk => absurd hk (by omega), fun h => absurd h (by rw [HE.out]; omega)⟩), Lib.hid (Blk.new' w _ _ _ rfl rfl), Lib.hid (by (repeat' (first | (with_reducible exact Below.refl _ _) | (with_reducible assumption) | (with_reducible refine Below.alloc ?_ ?_ _) | (with_reducible refine Below.drew ?_) | (with_reducible refine below_dn ?_) | (with_reducible refine Below.setCell ?_ ?_ _) | (with_reducible exact Nat.le_refl _) | omega | (simp only [World.size_alloc, World.size_setCell, World.size_drew]; omega) | (simp; omega) | (simp; done))))⟩
  case round =>
    obtain ⟨i, j, rfl, rfl, hij, hj, hs, KB, hbe⟩ := hrel
    obtain ⟨d0, d1, d2, d3⟩ := (show wr.cell? ⟨w.heap.size, 0, none⟩ = some (.int .i64 y1) ∧ wr.cell? ⟨w.heap.size, 1, none⟩ = some (.int .i64 y2) ∧ wr.cell? ⟨w.heap.size, 2, none⟩ = some (.int .i64 y3) ∧ wr.cell? ⟨w.heap.size, 3, none⟩ = some (.int .i64 y4) from ⟨KB.out.cell 0, KB.out.cell 1, KB.out.cell 2, KB.out.cell 3⟩)
    by_cases hlt : i < j
    · have m1 : i ≤ (i + j) / 2 := by omega
      have m2 : (i + j) / 2 < j := by omega
      obtain ⟨h, hh⟩ : ∃ h, (i + j) / 2 = h := ⟨_, rfl⟩
      rw [hh] at m1 m2
      have e1 : ((i : Int) + (j : Int)) / 2 = (h : Int) := by omega
      obtain ⟨b, off, rfl, q0, q1, q2, q3⟩ := RwA.at_ (HP.out.mono hbe.out) (k := h) (by rw [HE.out]; omega)
      have LT := Lib.hid (show c (l.getD h r0) < 0 → Mono c l → (∀ k, k < h + 1 → c (l.getD k r0) < 0) from fun h1 mo k hk => mo k h (by omega) (by rw [HE.out]; omega) h1)
      obtain ⟨x, hx⟩ : ∃ y, l.getD h r0 = y := ⟨_, rfl⟩
      rw [hx] at q0 q1 q2 q3 LT
      have HX := Lib.hid hx
      have C := Lib.hid (fun W => CC.out x W)
      have CE2 := Lib.hid (CE.out x)
      obtain ⟨r, hr⟩ : ∃ r, c x = r := ⟨_, rfl⟩
      rw [CE2.out, hr] at C
      rw [hr] at LT
      have HR := Lib.hid hr
      obtain ⟨x1, x2, x3, x4⟩ := x
      simp only [encR] at q0 q1 q2 q3 C
      clear hx hh hr CE2
      have h0 : (0 : Int) ≤ (h : Int) := by omega
      have hN2 : (h : Int) < (N : Int) := by omega
      by_cases hc : r < 0
      · have t1 : decide (r < 0) = true := decide_eq_true hc
        have HS := Lib.hid (LT.out hc)
        clear hc
        go_wp2_with fail
        go_region_held3 (fun X => (X.cell? ⟨w.heap.size, 0, none⟩ = some (.int .i64 y1) ∧ X.cell? ⟨w.heap.size, 1, none⟩ = some (.int .i64 y2) ∧ X.cell? ⟨w.heap.size, 2, none⟩ = some (.int .i64 y3) ∧ X.cell? ⟨w.heap.size, 3, none⟩ = some (.int .i64 y4)) ∧ X.cell? ⟨b, off + h * 4, none⟩ = some (.int .i64 x1) ∧ X.cell? ⟨b, off + h * 4 + 1, none⟩ = some (.int .i64 x2) ∧ X.cell? ⟨b, off + h * 4 + 2, none⟩ = some (.int .i64 x3) ∧ X.cell? ⟨b, off + h * 4 + 3, none⟩ = some (.int .i64 x4)) (first | exact ⟨⟨d0, d1, d2, d3⟩, q0, q1, q2, q3⟩ | exact ⟨four KB.out, keep (W := wr.drew) q0 hb, keep (W := wr.drew) q1 hb, keep (W := wr.drew) q2 hb, keep (W := wr.drew) q3 hb⟩) (first | (go_at_call 60; with_reducible refine (C.out _).mono ?_; rintro e w1 ⟨rfl, hb⟩; replace KB := Lib.hid (KB.out.drew.below hb KB.out.drew.lt); have B1 := Lib.hid (bt (Below.drew hbe.out) hb)))
        go_wp2
        go_roundw
        case rel => exact ⟨h + 1, j, by go_num, rfl, by omega, by omega, Lib.hid (fun mo => ⟨HS.out mo, (hs.out mo).2⟩), KB, B1⟩
        case measure => simp [intOf]; omega
      · have t1 : decide (r < 0) = false := decide_eq_false hc
        have HS := Lib.hid (show 0 ≤ c (l.getD h r0) by rw [HX.out, HR.out]; omega)
        clear hc
        go_wp2_with fail
        go_region_held3 (fun X => (X.cell? ⟨w.heap.size, 0, none⟩ = some (.int .i64 y1) ∧ X.cell? ⟨w.heap.size, 1, none⟩ = some (.int .i64 y2) ∧ X.cell? ⟨w.heap.size, 2, none⟩ = some (.int .i64 y3) ∧ X.cell? ⟨w.heap.size, 3, none⟩ = some (.int .i64 y4)) ∧ X.cell? ⟨b, off + h * 4, none⟩ = some (.int .i64 x1) ∧ X.cell? ⟨b, off + h * 4 + 1, none⟩ = some (.int .i64 x2) ∧ X.cell? ⟨b, off + h * 4 + 2, none⟩ = some (.int .i64 x3) ∧ X.cell? ⟨b, off + h * 4 + 3, none⟩ = some (.int .i64 x4)) (first | exact ⟨⟨d0, d1, d2, d3⟩, q0, q1, q2, q3⟩ | exact ⟨four KB.out, keep (W := wr.drew) q0 hb, keep (W := wr.drew) q1 hb, keep (W := wr.drew) q2 hb, keep (W := wr.drew) q3 hb⟩) (first | (go_at_call 60; with_reducible refine (C.out _).mono ?_; rintro e w1 ⟨rfl, hb⟩; replace KB := Lib.hid (KB.out.drew.below hb KB.out.drew.lt); have B1 := Lib.hid (bt (Below.drew hbe.out) hb)))
        go_wp2
        go_roundw
        case rel => exact ⟨i, h, rfl, rfl, by omega, by omega, Lib.hid (fun mo => ⟨(hs.out mo).1, fun _ => HS.out⟩), KB, B1⟩
        case measure => simp [intOf]; omega
    · obtain rfl : i = j := by omega
      by_cases hlast : i < N
      · have t0 : decide ((i : Int) < (N : Int)) = true := decide_eq_true (by omega)
        obtain ⟨b, off, rfl, q0, q1, q2, q3⟩ := RwA.at_ (HP.out.mono hbe.out) (k := i) (by rw [HE.out]; omega)
        obtain ⟨x, hx⟩ : ∃ y, l.getD i r0 = y := ⟨_, rfl⟩
        rw [hx] at q0 q1 q2 q3
        have HX := Lib.hid hx
        have C := Lib.hid (fun W => CC.out x W)
        have CE2 := Lib.hid (CE.out x)
        obtain ⟨r, hr⟩ : ∃ r, c x = r := ⟨_, rfl⟩
        rw [CE2.out, hr] at C
        have HR := Lib.hid hr
        obtain ⟨x1, x2, x3, x4⟩ := x
        simp only [encR] at q0 q1 q2 q3 C
        have FIN := Lib.hid (show Mono c l → i = posC c l ∧ decide (r = 0) = hasC c l from fun mo => by
          have h1 := PIS.out i (by rw [HE.out]; omega) (hs.out mo).1 (hs.out mo).2
          refine ⟨h1.symm, ?_⟩
          unfold hasC
          rw [h1, HX.out, HR.out]
          apply decide_eq_decide.mpr
          exact ⟨fun h => ⟨by rw [HE.out]; exact hlast, h⟩, fun h => h.2⟩)
        clear hx hr CE2
        have h0 : (0 : Int) ≤ (i : Int) := by omega
        have hN2 : (i : Int) < (N : Int) := by omega
        by_cases heq : r = 0
        · have t1 : (r == 0) = true := by simp [heq]
          have t2 : decide (r = 0) = true := decide_eq_true heq
          have H2 := Lib.hid t2
          rw [t2] at FIN
          clear heq
          go_wp2_with fail
          go_region_held3 (fun X => (X.cell? ⟨w.heap.size, 0, none⟩ = some (.int .i64 y1) ∧ X.cell? ⟨w.heap.size, 1, none⟩ = some (.int .i64 y2) ∧ X.cell? ⟨w.heap.size, 2, none⟩ = some (.int .i64 y3) ∧ X.cell? ⟨w.heap.size, 3, none⟩ = some (.int .i64 y4)) ∧ X.cell? ⟨b, off + i * 4, none⟩ = some (.int .i64 x1) ∧ X.cell? ⟨b, off + i * 4 + 1, none⟩ = some (.int .i64 x2) ∧ X.cell? ⟨b, off + i * 4 + 2, none⟩ = some (.int .i64 x3) ∧ X.cell? ⟨b, off + i * 4 + 3, none⟩ = some (.int .i64 x4)) (first | exact ⟨⟨d0, d1, d2, d3⟩, q0, q1, q2, q3⟩ | exact ⟨four KB.out, keep (W := wr.drew) q0 hb, keep (W := wr.drew) q1 hb, keep (W := wr.drew) q2 hb, keep (W := wr.drew) q3 hb⟩) (first | (go_at_call 60; with_reducible refine (C.out _).mono ?_; rintro e w1 ⟨rfl, hb⟩; replace KB := Lib.hid (KB.out.drew.below hb KB.out.drew.lt); have B1 := Lib.hid (bt (Below.drew hbe.out) hb)))
          go_wp2
          refine bodyPost_ret (by simp [results, Try.results80, go_sem]; try rfl) rfl ?_
          exact ⟨⟨i, true, rfl, by omega, fun _ => hlast, fun mo => FIN.out mo⟩, B1.out⟩
        · have t1 : (r == 0) = false := by simp [heq]
          have t2 : decide (r = 0) = false := decide_eq_false heq
          rw [t2] at FIN
          clear heq
          go_wp2_with fail
          go_region_held3 (fun X => (X.cell? ⟨w.heap.size, 0, none⟩ = some (.int .i64 y1) ∧ X.cell? ⟨w.heap.size, 1, none⟩ = some (.int .i64 y2) ∧ X.cell? ⟨w.heap.size, 2, none⟩ = some (.int .i64 y3) ∧ X.cell? ⟨w.heap.size, 3, none⟩ = some (.int .i64 y4)) ∧ X.cell? ⟨b, off + i * 4, none⟩ = some (.int .i64 x1) ∧ X.cell? ⟨b, off + i * 4 + 1, none⟩ = some (.int .i64 x2) ∧ X.cell? ⟨b, off + i * 4 + 2, none⟩ = some (.int .i64 x3) ∧ X.cell? ⟨b, off + i * 4 + 3, none⟩ = some (.int .i64 x4)) (first | exact ⟨⟨d0, d1, d2, d3⟩, q0, q1, q2, q3⟩ | exact ⟨four KB.out, keep (W := wr.drew) q0 hb, keep (W := wr.drew) q1 hb, keep (W := wr.drew) q2 hb, keep (W := wr.drew) q3 hb⟩) (first | (go_at_call 60; with_reducible refine (C.out _).mono ?_; rintro e w1 ⟨rfl, hb⟩; replace KB := Lib.hid (KB.out.drew.below hb KB.out.drew.lt); have B1 := Lib.hid (bt (Below.drew hbe.out) hb)))
          go_wp2
          refine bodyPost_ret (by simp [results, Try.results80, go_sem]; try rfl) rfl ?_
          exact ⟨⟨i, false, rfl, by omega, (fun h => by cases h), fun mo => FIN.out mo⟩, B1.out⟩
      · have t0 : decide ((i : Int) < (N : Int)) = false := decide_eq_false (by omega)
        have FIN := Lib.hid (show Mono c l → i = posC c l ∧ false = hasC c l from fun mo => by
          have h1 := PIS.out i (by rw [HE.out]; exact hj) (hs.out mo).1 (hs.out mo).2
          refine ⟨h1.symm, ?_⟩
          unfold hasC
          rw [h1]
          symm
          apply decide_eq_false
          rintro ⟨h, -⟩
          rw [HE.out] at h
          omega)
        clear hs
        go_wp2_with fail
        go_quiet (fail)
        go_wp2
        refine bodyPost_ret (by simp [results, Try.results80, go_sem]; try rfl) rfl ?_
        exact ⟨⟨i, false, rfl, by omega, (fun h => by cases h), fun mo => FIN.out mo⟩, below_dn hbe.out⟩
end Ro
end Go.Proofs.Ytcgdhankllphgaa
