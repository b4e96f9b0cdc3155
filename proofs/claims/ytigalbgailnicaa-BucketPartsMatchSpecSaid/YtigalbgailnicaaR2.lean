/- The sum of buckets. -/
import Derived.Test.YtigalbgailnicaaR1
namespace Go.Proofs.Ytigalbgailnicaa
set_option linter.unusedVariables false
set_option linter.unusedSimpArgs false
open Go.RowKit
def tsum (f : Bk → Int) : List Bk → Int
  | [] => 0
  | b :: bs => f b + tsum f bs
theorem tsum_snoc (f : Bk → Int) (bs : List Bk) (b : Bk) : tsum f (bs ++ [b]) = tsum f bs + f b := by
  induction bs with
  | nil => simp [tsum]
  | cons x xs ih => simp only [List.cons_append, tsum, ih]; omega
theorem tsum_take (f : Bk → Int) (bs : List Bk) (k : Nat) (h : k < bs.length) : tsum f (bs.take (k + 1)) = tsum f (bs.take k) + f (bs.getD k Bk.zero) := by
  rw [List.take_succ_eq_append_getElem h, tsum_snoc]
  simp [List.getD_eq_getElem?_getD, List.getElem?_eq_getElem h]
theorem tsum_bd (f : Bk → Int) (m : Int) (hm : 0 ≤ m) (bs : List Bk) (h : ∀ k, k < bs.length → 0 ≤ f (bs.getD k Bk.zero) ∧ f (bs.getD k Bk.zero) ≤ m) : ∀ k, k ≤ bs.length → 0 ≤ tsum f (bs.take k) ∧ tsum f (bs.take k) ≤ m * k := by
  intro k
  induction k with
  | zero => intro _; simp [tsum]
  | succ k ih =>
    intro hk
    have a := ih (by omega)
    have b := h k (by omega)
    rw [tsum_take f bs k (by omega)]
    have e : m * ((k + 1 : Nat) : Int) = m * k + m := by rw [Int.natCast_add, Int.mul_add]; simp
    omega
def OkBk (b : Bk) : Prop := OkB b.c b.n b.d b.l b.a
set_option maxRecDepth 100000 in
set_option maxHeartbeats 1500000 in
theorem sum_any (bs : List Bk) (a : Option Addr) (cap : Nat) (w : World) (hp : BktsA w a bs) (h1 : 1 ≤ bs.length) (h2 : bs.length ≤ 64) (hok : ∀ k, k < bs.length → OkBk (bs.getD k Bk.zero)) :
    Calls Try.prog 33 #[.slice a bs.length cap] w fun e w' => e = .returned (bk (tsum Bk.c bs) (tsum Bk.n bs) (bs.getD 0 Bk.zero).d (tsum Bk.l bs) (bs.getD 0 Bk.zero).a) ∧ Below w.heap.size w w' := by
  have HP := Lib.hid hp; clear hp
  have BC := Lib.hid (tsum_bd Bk.c 1073741824 (by omega) bs (fun k hk => ⟨(hok k hk).1, (hok k hk).2.1⟩))
  have BN := Lib.hid (tsum_bd Bk.n 1048576 (by omega) bs (fun k hk => ⟨(hok k hk).2.2.1, (hok k hk).2.2.2.1⟩))
  have BL := Lib.hid (tsum_bd Bk.l 1125899906842624 (by omega) bs (fun k hk => ⟨(hok k hk).2.2.2.2.2.2.1, by have := (hok k hk).2.2.2.2.2.2.2.1; have := (hok k hk).prod; omega⟩))
  have HOK := Lib.hid hok; clear hok
  obtain ⟨b, off, rfl, x0, x1, x2, x3, x4⟩ := HP.out 0 (by omega)
  obtain ⟨⟨c, n, d, l, t⟩, hb⟩ : ∃ z, bs.getD 0 Bk.zero = z := ⟨_, rfl⟩
  rw [hb] at x0 x1 x2 x3 x4 ⊢
  simp only [Nat.zero_mul, Nat.add_zero] at x0 x1 x2 x3 x4 ⊢
  have zb := block_lt_of_cell x0
  simp only at zb
  clear hb
  go_enter Try.func33, Try.ntmps33
  go_wp2_with fail
  refine (frame_any _ _ _ _ _ _).mono ?_
  rintro e w1 ⟨rfl, hb1⟩
  have B1 : Below w.heap.size w w1 := bt (by (repeat' (first | (with_reducible exact Below.refl _ _) | (with_reducible assumption) | (with_reducible refine Below.alloc ?_ ?_ _) | (with_reducible refine Below.drew ?_) | (with_reducible refine below_dn ?_) | (with_reducible refine Below.setCell ?_ ?_ _) | (with_reducible exact Nat.le_refl _) | omega | (simp only [World.size_alloc, World.size_setCell, World.size_drew]; omega) | (simp; omega) | (simp; done)))) hb1
  have z1 : w.heap.size < w1.heap.size := by have := hb1.size; simp at this; omega
  have r0 : w1.cell? ⟨w.heap.size, 0, none⟩ = some (.int .i64 0) := keep (by go_cell) hb1
  have r1 : w1.cell? ⟨w.heap.size, 1, none⟩ = some (.int .i64 0) := keep (by go_cell) hb1
  have r2 : w1.cell? ⟨w.heap.size, 2, none⟩ = some (.int .i64 0) := keep (by go_cell) hb1
  have r3 : w1.cell? ⟨w.heap.size, 3, none⟩ = some (.int .i64 0) := keep (by go_cell) hb1
  have r4 : w1.cell? ⟨w.heap.size, 4, none⟩ = some (.int .i64 0) := keep (by go_cell) hb1
  have rf : ∀ o, w1.frozen? ⟨w.heap.size, o, none⟩ = false := fun o => (hb1.frozen (p := ⟨w.heap.size, o, none⟩) (by simp)).trans (by simp [go_sem])
  clear hb1 x0 x1 x2 x3 x4
  go_wp2
  obtain ⟨S, hS⟩ : ∃ S, w1.heap.size = S := ⟨_, rfl⟩
  rw [hS]
  go_loopw [12] (fun i wr => ∃ k : Nat, k ≤ bs.length ∧ i = .int .i64 k ∧ Below w.heap.size w wr ∧ S < wr.heap.size ∧ Hid (∀ o, wr.frozen? ⟨S, o, none⟩ = false) ∧ Hid (∀ o, wr.frozen? ⟨w.heap.size, o, none⟩ = false) ∧
    (∃ C N L : Int, wr.cell? ⟨S, 0, none⟩ = some (.int .i64 C) ∧ wr.cell? ⟨S, 1, none⟩ = some (.int .i64 N) ∧ wr.cell? ⟨S, 2, none⟩ = some (.int .i64 d) ∧ wr.cell? ⟨S, 3, none⟩ = some (.int .i64 L) ∧ wr.cell? ⟨S, 4, none⟩ = some (.int .i64 t) ∧
      Hid (C = tsum Bk.c (bs.take k) ∧ N = tsum Bk.n (bs.take k) ∧ L = tsum Bk.l (bs.take k))) ∧
    wr.cell? ⟨w.heap.size, 0, none⟩ = some (.int .i64 0) ∧ wr.cell? ⟨w.heap.size, 1, none⟩ = some (.int .i64 0) ∧ wr.cell? ⟨w.heap.size, 2, none⟩ = some (.int .i64 0) ∧ wr.cell? ⟨w.heap.size, 3, none⟩ = some (.int .i64 0) ∧ wr.cell? ⟨w.heap.size, 4, none⟩ = some (.int .i64 0)) (fun i _ => bs.length - (intOf i).toNat)
  case atStart =>
    subst hS
    exact ⟨0, by omega, rfl, by (repeat' (first | (with_reducible exact Below.refl _ _) | (with_reducible assumption) | (with_reducible refine Below.alloc ?_ ?_ _) | (with_reducible refine Below.drew ?_) | (with_reducible refine below_dn ?_) | (with_reducible refine Below.setCell ?_ ?_ _) | (with_reducible exact Nat.le_refl _) | omega | (simp only [World.size_alloc, World.size_setCell, World.size_drew]; omega) | (simp; omega) | (simp; done))), by simp, fun o => by simp [go_sem], fun o => (frozen?_alloc_cells _ _ _ _).trans (rf o), ⟨0, 0, 0, by simp [go_sem], by simp [go_sem], by simp [go_sem], by simp [go_sem], by simp [go_sem], by simp [tsum], by simp [tsum], by simp [tsum]⟩,
      by rw [World.cell?_alloc_past _ _ _ z1]; exact r0, by rw [World.cell?_alloc_past _ _ _ z1]; exact r1, by rw [World.cell?_alloc_past _ _ _ z1]; exact r2, by rw [World.cell?_alloc_past _ _ _ z1]; exact r3, by rw [World.cell?_alloc_past _ _ _ z1]; exact r4⟩
  case round =>
    have zS : w.heap.size < S := by omega
    clear hS r0 r1 r2 r3 r4 rf B1 z1
    obtain ⟨k, hk, rfl, hB, hSz, hfS, hfw, ⟨C, N, L, s0, s1, s2, s3, s4, hCNL⟩, r0, r1, r2, r3, r4⟩ := hrel
    obtain ⟨c1, c2⟩ := BC.out k hk
    obtain ⟨n1, n2⟩ := BN.out k hk
    obtain ⟨l1, l2⟩ := BL.out k hk
    rw [← hCNL.out.1] at c1 c2
    rw [← hCNL.out.2.1] at n1 n2
    rw [← hCNL.out.2.2] at l1 l2
    by_cases hlt : k < bs.length
    · obtain ⟨b', off', he, y0, y1, y2, y3, y4⟩ := HP.out k hlt
      simp only [Option.some.injEq, Addr.mk.injEq, and_true] at he
      obtain ⟨rfl, rfl⟩ := he
      have ok := HOK.out k hlt
      have t1 := tsum_take Bk.c bs k hlt
      have t2 := tsum_take Bk.n bs k hlt
      have t3 := tsum_take Bk.l bs k hlt
      obtain ⟨⟨c', n', d', l', t'⟩, hb⟩ : ∃ z, bs.getD k Bk.zero = z := ⟨_, rfl⟩
      rw [hb] at y0 y1 y2 y3 y4 ok t1 t2 t3
      simp only at y0 y1 y2 y3 y4 t1 t2 t3
      unfold OkBk at ok
      simp only at ok
      have okp := ok.prod
      obtain ⟨u1, u2, u3, u4, u5, u6, u7, u8, u9, u10⟩ := ok
      have u8' : l' ≤ 1125899906842624 := by omega
      rw [← hCNL.out.1] at t1
      rw [← hCNL.out.2.1] at t2
      rw [← hCNL.out.2.2] at t3
      have T := Lib.hid (And.intro t1.symm (And.intro t2.symm t3.symm))
      have e0 := keep y0 hB; have e1 := keep y1 hB; have e2 := keep y2 hB; have e3 := keep y3 hB; have e4 := keep y4 hB
      have zb' := Nat.lt_of_lt_of_le zb hB.size
      have F := hfS.out
      clear y0 y1 y2 y3 y4 hb t1 t2 t3 hCNL u8 okp
      go_wp2
      go_roundw
      case rel =>
        refine ⟨k + 1, by omega, by go_num, by (repeat' (first | (with_reducible exact Below.refl _ _) | (with_reducible assumption) | (with_reducible refine Below.alloc ?_ ?_ _) | (with_reducible refine Below.drew ?_) | (with_reducible refine below_dn ?_) | (with_reducible refine Below.setCell ?_ ?_ _) | (with_reducible exact Nat.le_refl _) | omega | (simp only [World.size_alloc, World.size_setCell, World.size_drew]; omega) | (simp; omega) | (simp; done))), by simp; omega, ?_, ?_, ⟨C + c', N + n', L + l', ?_, ?_, ?_, ?_, ?_, T.out⟩, ?_, ?_, ?_, ?_, ?_⟩
        · intro o; show World.frozen? _ _ = _; simp only [World.frozen?_setCell, frozen?_alloc_cells]; exact hfS.out o
        · intro o; show World.frozen? _ _ = _; simp only [World.frozen?_setCell, frozen?_alloc_cells]; exact hfw.out o
        all_goals first | (rw [World.cell?_alloc_past _ _ _ (by simp; omega)]; go_cell; done) | (go_cell; done) | (simp [go_sem, *]; done)
      case measure => simp [intOf]; omega
    · obtain rfl : k = bs.length := by omega
      have hC := hCNL.out
      rw [List.take_length] at hC
      obtain ⟨rfl, rfl, rfl⟩ := hC
      have Fw := hfw.out
      clear hCNL
      go_wp2
      refine bodyPost_ret (v := bk (tsum Bk.c bs) (tsum Bk.n bs) d (tsum Bk.l bs) t) (by simp [results, Try.results33, go_sem, r0, r1, r2, r3, r4, s0, s1, s2, s3, s4]; try rfl) rfl ⟨rfl, by (repeat' (first | (with_reducible exact Below.refl _ _) | (with_reducible assumption) | (with_reducible refine Below.alloc ?_ ?_ _) | (with_reducible refine Below.drew ?_) | (with_reducible refine below_dn ?_) | (with_reducible refine Below.setCell ?_ ?_ _) | (with_reducible exact Nat.le_refl _) | omega | (simp only [World.size_alloc, World.size_setCell, World.size_drew]; omega) | (simp; omega) | (simp; done)))⟩
end Go.Proofs.Ytigalbgailnicaa
