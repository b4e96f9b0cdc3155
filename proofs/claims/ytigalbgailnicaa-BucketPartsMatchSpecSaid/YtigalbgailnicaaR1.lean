/- Lists of buckets; frame; sums. -/
import Derived.Test.YtigalbgailnicaaH
import Derived.Deep.RegionWith
import Derived.StillTailTactics
namespace Go.Proofs.Ytigalbgailnicaa
set_option linter.unusedVariables false
set_option linter.unusedSimpArgs false
open Go.RowKit
/-- A bucket as five numbers: its greatest number of tokens, the two of its rate, its level, its time. -/
structure Bk where
  c : Int
  n : Int
  d : Int
  l : Int
  a : Int
def Bk.zero : Bk := ⟨0, 0, 0, 0, 0⟩
/-- A slice of buckets in memory, nil included. -/
def BktsA (W : World) (a : Option Addr) (bs : List Bk) : Prop :=
  ∀ k, k < bs.length → ∃ b off, a = some ⟨b, off, none⟩ ∧ W.cell? ⟨b, off + k * 5, none⟩ = some (.int .i64 (bs.getD k Bk.zero).c) ∧ W.cell? ⟨b, off + k * 5 + 1, none⟩ = some (.int .i64 (bs.getD k Bk.zero).n) ∧
    W.cell? ⟨b, off + k * 5 + 2, none⟩ = some (.int .i64 (bs.getD k Bk.zero).d) ∧ W.cell? ⟨b, off + k * 5 + 3, none⟩ = some (.int .i64 (bs.getD k Bk.zero).l) ∧ W.cell? ⟨b, off + k * 5 + 4, none⟩ = some (.int .i64 (bs.getD k Bk.zero).a)
theorem BktsA.mono {W W' : World} {a : Option Addr} {bs : List Bk} (h : BktsA W a bs) (hb : Below W.heap.size W W') : BktsA W' a bs := by
  intro k hk
  obtain ⟨b, off, e, h0, h1, h2, h3, h4⟩ := h k hk
  exact ⟨b, off, e, keep h0 hb, keep h1 hb, keep h2 hb, keep h3 hb, keep h4 hb⟩
set_option maxHeartbeats 600000 in
theorem frame_any (c n d l a : Int) (w : World) : Calls Try.prog 32 #[bk c n d l a] w fun e w' => e = .returned (bk 0 0 d 0 a) ∧ Below w.heap.size w w' := by
  go_enter Try.func32, Try.ntmps32
  go_wp2
  refine bodyPost_ret (v := bk 0 0 d 0 a) (by simp [results, Try.results32, go_sem]; try rfl) rfl ⟨rfl, by (repeat' (first | (with_reducible exact Below.refl _ _) | (with_reducible assumption) | (with_reducible refine Below.alloc ?_ ?_ _) | (with_reducible refine Below.drew ?_) | (with_reducible refine below_dn ?_) | (with_reducible refine Below.setCell ?_ ?_ _) | (with_reducible exact Nat.le_refl _) | omega | (simp only [World.size_alloc, World.size_setCell, World.size_drew]; omega) | (simp; omega) | (simp; done)))⟩
set_option maxHeartbeats 1000000 in
theorem sums_any (s : Int) (zs : List Int) (a : Option Addr) (cap : Nat) (w : World) (h0 : 0 ≤ s) (h1 : s ≤ 1073741824) (hp : IntsA .i64 w a zs) (hm : zs.length ≤ 9223372036854775807) :
    Calls Try.prog 34 #[.slice a zs.length cap, .int .i64 s] w fun e w' => e = .returned (.bool (addB s zs)) ∧ w = w' := by
  have HP := Lib.hid hp; clear hp
  go_enter Try.func34, Try.ntmps34
  go_wp2
  go_loop [5, 6] (fun ss i => ∃ (k : Nat) (u : Int), k ≤ zs.length ∧ i = .int .i64 k ∧ ss = .int .i64 u ∧ 0 ≤ u ∧ u ≤ 1073741824 ∧ Hid (addB s zs = addB u (zs.drop k))) (fun _ i => zs.length - (intOf i).toNat)
  case atStart => exact ⟨0, s, by omega, rfl, rfl, h0, h1, rfl⟩
  case round =>
    obtain ⟨k, u, hk, rfl, rfl, u0, u1, hh⟩ := hrel
    by_cases hlt : k < zs.length
    · obtain ⟨b, off, rfl, q1, q2⟩ := HP.out k hlt
      have hd := addB_drop u zs k hlt
      obtain ⟨x, hx⟩ : ∃ x, zs.getD k 0 = x := ⟨_, rfl⟩
      rw [hx] at q1 hd
      by_cases hc : 0 ≤ x ∧ x ≤ u
      · rw [decide_eq_true hc, Bool.true_and] at hd
        have HD := Lib.hid (hh.out.trans hd)
        obtain ⟨c1, c2⟩ := hc
        clear hd q2 hx
        go_wp2
        go_round
        case rel => exact ⟨k + 1, u - x, by omega, by go_num, rfl, by omega, by omega, HD⟩
        case measure => simp [intOf]; omega
      · rw [decide_eq_false hc, Bool.false_and] at hd
        have HD := Lib.hid (hh.out.trans hd)
        have HC := Lib.hid hc
        clear hd q2 hx hc
        go_wp2
        all_goals first
          | (go_ret; exact ⟨ret_bool HD.out.symm, rfl⟩)
          | (exfalso; have := HC.out; omega)
    · obtain rfl : k = zs.length := by omega
      have hd := hh.out
      rw [List.drop_length] at hd
      have HD := Lib.hid hd
      clear hd
      go_wp2
      go_ret
      exact ⟨ret_bool (by rw [HD.out]; unfold addB; first | rfl | (apply decide_eq_decide.mpr; omega) | (rw [Bool.eq_iff_iff]; simp)), rfl⟩
def sameB (x y : Bk) : Bool := decide (x.c = y.c ∧ x.n = y.n ∧ x.d = y.d ∧ x.l = y.l ∧ x.a = y.a)
set_option maxHeartbeats 1000000 in
/-- Two slices that hold the same buckets are the same. -/
theorem same_yes (bs : List Bk) (a1 a2 : Option Addr) (cap1 cap2 : Nat) (w : World) (h1 : BktsA w a1 bs) (h2 : BktsA w a2 bs) (hm : bs.length ≤ 9223372036854775807) :
    Calls Try.prog 28 #[.slice a1 bs.length cap1, .slice a2 bs.length cap2] w fun e w' => e = .returned (.bool true) ∧ Below w.heap.size w w' := by
  have H1 := Lib.hid h1; clear h1
  have H2 := Lib.hid h2; clear h2
  go_enter Try.func28, Try.ntmps28
  go_wp2
  go_loopw [5] (fun i wr => ∃ k q : Nat, k ≤ bs.length ∧ i = .int .i64 k ∧ wr = w.drewN q) (fun i _ => bs.length - (intOf i).toNat)
  case atStart => exact ⟨0, 0, by omega, rfl, rfl⟩
  case round =>
    obtain ⟨k, q, hk, rfl, rfl⟩ := hrel
    by_cases hlt : k < bs.length
    · obtain ⟨b1, o1, rfl, x0, x1, x2, x3, x4⟩ := H1.out k hlt
      obtain ⟨b2, o2, rfl, y0, y1, y2, y3, y4⟩ := H2.out k hlt
      obtain ⟨⟨c, n, d, l, a⟩, hb⟩ : ∃ b, bs.getD k Bk.zero = b := ⟨_, rfl⟩
      rw [hb] at x0 x1 x2 x3 x4 y0 y1 y2 y3 y4
      simp only at x0 x1 x2 x3 x4 y0 y1 y2 y3 y4
      clear hb
      go_wp2
      go_quiet (fail)
      go_wp2
      go_roundw
      case rel => exact ⟨k + 1, _, by omega, by go_num, rfl⟩
      case measure => simp [intOf]; omega
    · go_wp2
      go_ret
      exact ⟨rfl, by (repeat' (first | (with_reducible exact Below.refl _ _) | (with_reducible assumption) | (with_reducible refine Below.alloc ?_ ?_ _) | (with_reducible refine Below.drew ?_) | (with_reducible refine below_dn ?_) | (with_reducible refine Below.setCell ?_ ?_ _) | (with_reducible exact Nat.le_refl _) | omega | (simp only [World.size_alloc, World.size_setCell, World.size_drew]; omega) | (simp; omega) | (simp; done)))⟩
end Go.Proofs.Ytigalbgailnicaa
