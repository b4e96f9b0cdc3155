/- Contracts: SameBank and SamePurse of the reference, where both are the same. -/
import Derived.Test.YtcgdhankllphgaaVP
import Derived.Test.YtcgdhankllphgaaF
import Derived.Test.YtcgdhankllphgaaK1
namespace Go.Proofs.Ytcgdhankllphgaa
set_option linter.unusedVariables false
set_option linter.unusedSimpArgs false
open Go.RowKit
set_option maxRecDepth 100000 in
set_option maxHeartbeats 2000000 in
theorem same_bank (cap len : Int) (a b : Option Addr) (c c2 : Nat) (l : List Rw) (w : World) (hp : RwA w a l) (hq : RwA w b l) (hm : l.length ≤ 9223372036854775807) :
    Calls Try.prog 19 #[.agg #[.int .i64 cap, .int .i64 len, .slice a l.length c], .agg #[.int .i64 cap, .int .i64 len, .slice b l.length c2]] w fun e w' => e = .returned (.bool true) ∧ Below w.heap.size w w' := by
  have HP := Lib.hid hp
  have HQ := Lib.hid hq
  obtain ⟨N, hN⟩ : ∃ N, l.length = N := ⟨_, rfl⟩
  have HE := Lib.hid hN
  rw [hN] at hm ⊢
  clear hp hq hN
  go_enter Try.func19, Try.ntmps19
  obtain ⟨G, hG⟩ : ∃ G, w.heap.size = G := ⟨_, rfl⟩
  have K1 := Lib.hid (show Blk ((w.alloc (.cells #[.int .i64 cap, .int .i64 len, .slice a N c] 24)).alloc (.cells #[.int .i64 cap, .int .i64 len, .slice b N c2] 24)) G 24 #[.int .i64 cap, .int .i64 len, .slice a N c] from (Blk.new' w _ _ _ hG rfl).alloc _)
  have K2 := Lib.hid (show Blk ((w.alloc (.cells #[.int .i64 cap, .int .i64 len, .slice a N c] 24)).alloc (.cells #[.int .i64 cap, .int .i64 len, .slice b N c2] 24)) (G + 1) 24 #[.int .i64 cap, .int .i64 len, .slice b N c2] from Blk.new' _ _ _ _ (by rw [World.size_alloc, hG]) rfl)
  have B := Lib.hid (show Below w.heap.size w ((w.alloc (.cells #[.int .i64 cap, .int .i64 len, .slice a N c] 24)).alloc (.cells #[.int .i64 cap, .int .i64 len, .slice b N c2] 24)) by (repeat' (first | (with_reducible exact Below.refl _ _) | (with_reducible assumption) | (with_reducible refine Below.alloc ?_ ?_ _) | (with_reducible refine Below.drew ?_) | (with_reducible refine below_dn ?_) | (with_reducible refine Below.setCell ?_ ?_ _) | (with_reducible exact Nat.le_refl _) | omega | (simp only [World.size_alloc, World.size_setCell, World.size_drew]; omega) | (simp; omega) | (simp; done))))
  go_upto_region 1 with (fail)
  try rw [hG]
  generalize hw0 : ((w.alloc (.cells #[.int .i64 cap, .int .i64 len, .slice a N c] 24)).alloc (.cells #[.int .i64 cap, .int .i64 len, .slice b N c2] 24)) = w0 at K1 K2 B ⊢
  clear hw0 hG
  obtain ⟨d0, d1, d2⟩ := three K1.out
  obtain ⟨h0, h1, h2⟩ := three K2.out
  go_wp2
  go_loopw [5] (fun u5 wr => ∃ k : Nat, k ≤ N ∧ u5 = .int .i64 k ∧ Hid (Below w0.heap.size w0 wr)) (fun u5 _ => (N - intOf u5).toNat)
  case atStart => exact ⟨0, by omega, rfl, Lib.hid (Below.refl _ _)⟩
  case round =>
    obtain ⟨k, hk, rfl, hsw⟩ := hrel
    replace K1 := Lib.hid (K1.out.below hsw.out K1.out.lt)
    replace K2 := Lib.hid (K2.out.below hsw.out K2.out.lt)
    replace B := Lib.hid (B.out.trans (hsw.out.mono B.out.size))
    clear d0 d1 d2 h0 h1 h2
    obtain ⟨d0, d1, d2⟩ := three K1.out
    obtain ⟨h0, h1, h2⟩ := three K2.out
    by_cases hlt : k < N
    · have t0 : decide ((k : Int) < (N : Int)) = true := decide_eq_true (by omega)
      have wk : IntKind.i64.wrap ((k : Int) + 1) = (k : Int) + 1 := by rw [IntKind.wrap_i64]; omega
      obtain ⟨o1, f1, rfl, q0, q1, q2, q3⟩ := RwA.at_ (HP.out.mono B.out) (k := k) (by rw [HE.out]; exact hlt)
      obtain ⟨o2, f2, rfl, s0, s1, s2, s3⟩ := RwA.at_ (HQ.out.mono B.out) (k := k) (by rw [HE.out]; exact hlt)
      obtain ⟨x, hx⟩ : ∃ y, l.getD k r0 = y := ⟨_, rfl⟩
      rw [hx] at q0 q1 q2 q3 s0 s1 s2 s3
      clear hx
      obtain ⟨x1, x2, x3, x4⟩ := x
      simp only at q0 q1 q2 q3 s0 s1 s2 s3
      have k0 : (0 : Int) ≤ (k : Int) := by omega
      have kN : (k : Int) < (N : Int) := by omega
      go_wp2
      try go_region
      all_goals try go_wp2
      all_goals go_roundw
      all_goals first | exact ⟨k + 1, by omega, by go_num, Lib.hid (hsw.out.drew)⟩ | exact ⟨k + 1, by omega, by go_num, hsw⟩ | (simp [intOf]; omega)
    · obtain rfl : k = N := by omega
      go_wp2
      refine bodyPost_ret (by simp [results, Try.results19, go_sem]; try rfl) rfl ?_
      exact ⟨rfl, B.out⟩
set_option maxRecDepth 100000 in
set_option maxHeartbeats 2000000 in
theorem same_purse (len : Int) (a b : Option Addr) (c c2 : Nat) (l : List Rw) (w : World) (hp : RwA w a l) (hq : RwA w b l) (hm : l.length ≤ 9223372036854775807) :
    Calls Try.prog 36 #[.agg #[.int .i64 len, .slice a l.length c], .agg #[.int .i64 len, .slice b l.length c2]] w fun e w' => e = .returned (.bool true) ∧ Below w.heap.size w w' := by
  have HP := Lib.hid hp
  have HQ := Lib.hid hq
  obtain ⟨N, hN⟩ : ∃ N, l.length = N := ⟨_, rfl⟩
  have HE := Lib.hid hN
  rw [hN] at hm ⊢
  clear hp hq hN
  go_enter Try.func36, Try.ntmps36
  obtain ⟨G, hG⟩ : ∃ G, w.heap.size = G := ⟨_, rfl⟩
  have K1 := Lib.hid (show Blk ((w.alloc (.cells #[.int .i64 len, .slice a N c] 45)).alloc (.cells #[.int .i64 len, .slice b N c2] 45)) G 45 #[.int .i64 len, .slice a N c] from (Blk.new' w _ _ _ hG rfl).alloc _)
  have K2 := Lib.hid (show Blk ((w.alloc (.cells #[.int .i64 len, .slice a N c] 45)).alloc (.cells #[.int .i64 len, .slice b N c2] 45)) (G + 1) 45 #[.int .i64 len, .slice b N c2] from Blk.new' _ _ _ _ (by rw [World.size_alloc, hG]) rfl)
  have B := Lib.hid (show Below w.heap.size w ((w.alloc (.cells #[.int .i64 len, .slice a N c] 45)).alloc (.cells #[.int .i64 len, .slice b N c2] 45)) by (repeat' (first | (with_reducible exact Below.refl _ _) | (with_reducible assumption) | (with_reducible refine Below.alloc ?_ ?_ _) | (with_reducible refine Below.drew ?_) | (with_reducible refine below_dn ?_) | (with_reducible refine Below.setCell ?_ ?_ _) | (with_reducible exact Nat.le_refl _) | omega | (simp only [World.size_alloc, World.size_setCell, World.size_drew]; omega) | (simp; omega) | (simp; done))))
  go_upto_region 1 with (fail)
  try rw [hG]
  generalize hw0 : ((w.alloc (.cells #[.int .i64 len, .slice a N c] 45)).alloc (.cells #[.int .i64 len, .slice b N c2] 45)) = w0 at K1 K2 B ⊢
  clear hw0 hG
  obtain ⟨d0, d1⟩ := twob K1.out
  obtain ⟨h0, h1⟩ := twob K2.out
  go_wp2
  go_loopw [5] (fun u5 wr => ∃ k : Nat, k ≤ N ∧ u5 = .int .i64 k ∧ Hid (Below w0.heap.size w0 wr)) (fun u5 _ => (N - intOf u5).toNat)
  case atStart => exact ⟨0, by omega, rfl, Lib.hid (Below.refl _ _)⟩
  case round =>
    obtain ⟨k, hk, rfl, hsw⟩ := hrel
    replace K1 := Lib.hid (K1.out.below hsw.out K1.out.lt)
    replace K2 := Lib.hid (K2.out.below hsw.out K2.out.lt)
    replace B := Lib.hid (B.out.trans (hsw.out.mono B.out.size))
    clear d0 d1 h0 h1
    obtain ⟨d0, d1⟩ := twob K1.out
    obtain ⟨h0, h1⟩ := twob K2.out
    by_cases hlt : k < N
    · have t0 : decide ((k : Int) < (N : Int)) = true := decide_eq_true (by omega)
      have wk : IntKind.i64.wrap ((k : Int) + 1) = (k : Int) + 1 := by rw [IntKind.wrap_i64]; omega
      obtain ⟨o1, f1, rfl, q0, q1, q2, q3⟩ := RwA.at_ (HP.out.mono B.out) (k := k) (by rw [HE.out]; exact hlt)
      obtain ⟨o2, f2, rfl, s0, s1, s2, s3⟩ := RwA.at_ (HQ.out.mono B.out) (k := k) (by rw [HE.out]; exact hlt)
      obtain ⟨x, hx⟩ : ∃ y, l.getD k r0 = y := ⟨_, rfl⟩
      rw [hx] at q0 q1 q2 q3 s0 s1 s2 s3
      clear hx
      obtain ⟨x1, x2, x3, x4⟩ := x
      simp only at q0 q1 q2 q3 s0 s1 s2 s3
      have k0 : (0 : Int) ≤ (k : Int) := by omega
      have kN : (k : Int) < (N : Int) := by omega
      go_wp2
      try go_region
      all_goals try go_wp2
      all_goals go_roundw
      all_goals first | exact ⟨k + 1, by omega, by go_num, Lib.hid (hsw.out.drew)⟩ | exact ⟨k + 1, by omega, by go_num, hsw⟩ | (simp [intOf]; omega)
    · obtain rfl : k = N := by omega
      go_wp2
      refine bodyPost_ret (by simp [results, Try.results36, go_sem]; try rfl) rfl ?_
      exact ⟨rfl, B.out⟩
end Go.Proofs.Ytcgdhankllphgaa
