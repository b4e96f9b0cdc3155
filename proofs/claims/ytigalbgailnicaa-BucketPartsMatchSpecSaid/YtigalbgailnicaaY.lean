/- Adding up; the sample of Split. -/
import Derived.Test.YtigalbgailnicaaC
import Derived.Deep.RegionWith
import Derived.StillTailTactics
namespace Go.Proofs.Ytigalbgailnicaa
set_option linter.unusedVariables false
set_option linter.unusedSimpArgs false
open Go.RowKit
/-- A slice of numbers in memory, nil included. -/
def IntsA (kd : IntKind) (W : World) (a : Option Addr) (zs : List Int) : Prop :=
  ∀ k, k < zs.length → ∃ b off, a = some ⟨b, off, none⟩ ∧ W.cell? ⟨b, off + k, none⟩ = some (.int kd (zs.getD k 0)) ∧ (Lit.int kd (zs.getD k 0)).wf = true
theorem IntsA.mono {kd : IntKind} {W W' : World} {a : Option Addr} {zs : List Int} (h : IntsA kd W a zs) (hb : Below W.heap.size W W') : IntsA kd W' a zs := by
  intro k hk
  obtain ⟨b, off, e, h1, h2⟩ := h k hk
  exact ⟨b, off, e, by rw [hb.cell (p := ⟨b, off + k, none⟩) (block_lt_of_cell h1)]; exact h1, h2⟩
/-- Numbers that are not negative and add up. -/
def addB : Int → List Int → Bool
  | s, [] => decide (s = 0)
  | s, x :: xs => decide (0 ≤ x ∧ x ≤ s) && addB (s - x) xs
theorem addB_drop (s : Int) (zs : List Int) (k : Nat) (h : k < zs.length) : addB s (zs.drop k) = (decide (0 ≤ zs.getD k 0 ∧ zs.getD k 0 ≤ s) && addB (s - zs.getD k 0) (zs.drop (k + 1))) := by
  rw [List.drop_eq_getElem_cons h]
  simp [addB, List.getElem?_eq_getElem h]
set_option maxHeartbeats 1000000 in
theorem addUp_any (s : Int) (zs : List Int) (a : Option Addr) (cap : Nat) (w : World) (h0 : 0 ≤ s) (h1 : s ≤ 1073741824) (hp : IntsA .i64 w a zs) (hm : zs.length ≤ 9223372036854775807) :
    Calls Try.prog 31 #[.int .i64 s, .slice a zs.length cap] w fun e w' => e = .returned (.bool (addB s zs)) ∧ w = w' := by
  have HP := Lib.hid hp; clear hp
  go_enter Try.func31, Try.ntmps31
  go_wp2
  go_loop [0, 9] (fun ss i => ∃ (k : Nat) (u : Int), k ≤ zs.length ∧ i = .int .i64 k ∧ ss = .int .i64 u ∧ 0 ≤ u ∧ u ≤ 1073741824 ∧ Hid (addB s zs = addB u (zs.drop k))) (fun _ i => zs.length - (intOf i).toNat)
  case atStart => exact ⟨0, s, by omega, rfl, rfl, h0, h1, rfl⟩
  case round =>
    obtain ⟨k, u, hk, rfl, rfl, u0, u1, hh⟩ := hrel
    by_cases hlt : k < zs.length
    · obtain ⟨b, off, rfl, q1, q2⟩ := HP.out k hlt
      have hd := addB_drop u zs k hlt
      obtain ⟨x, hx⟩ : ∃ x, zs.getD k 0 = x := ⟨_, rfl⟩
      rw [hx] at q1 hd
      by_cases hc : 0 ≤ x ∧ x ≤ u
      · rw [decide_eq_true hc, Bool.true_and] at hd
        have HD := Lib.hid (hh.out.trans hd)
        obtain ⟨c1, c2⟩ := hc
        clear hd q2 hx
        go_wp2_with (go_at_call 29; refine (within_yes _ _ _ _ (by omega) (by omega)).mono ?_; rintro e w1 ⟨rfl, rfl⟩)
        go_round
        case rel => exact ⟨k + 1, u - x, by omega, by go_num, rfl, by omega, by omega, HD⟩
        case measure => simp [intOf]; omega
      · rw [decide_eq_false hc, Bool.false_and] at hd
        have HD := Lib.hid (hh.out.trans hd)
        have hc' : x < 0 ∨ u < x := by omega
        have HC := Lib.hid hc'
        clear hd q2 hx hc hc'
        go_wp2_with (go_at_call 29; refine (within_no _ _ _ _ HC.out).mono ?_; rintro e w1 ⟨rfl, rfl⟩)
        go_ret
        exact ⟨ret_bool HD.out.symm, rfl⟩
    · obtain rfl : k = zs.length := by omega
      have hd := hh.out
      rw [List.drop_length] at hd
      have HD := Lib.hid hd
      clear hd
      go_wp2
      go_ret
      exact ⟨ret_bool (by rw [HD.out]; unfold addB; first | rfl | (apply decide_eq_decide.mpr; omega) | (rw [Bool.eq_iff_iff]; simp)), rfl⟩
theorem info23 : (Try.prog.info? 23).map (fun i => (i.zero, i.size, i.bytes)) = some (some (bk 0 0 0 0 0), 5, 40) := by kernel_rfl
theorem run_made (n : Nat) (hn : n ≤ 64) (W : World) : (Instr.makeSlice 46 (.int .i64 (n : Int)) (.int .i64 (n : Int))).run Try.prog W = .ok (.slice (some ⟨W.heap.size, 0, none⟩) n n) (W.alloc (.cells (madeCells #[.int .i64 0, .int .i64 0, .int .i64 0, .int .i64 0, .int .i64 0] (n * 5)) 23)) := by
  obtain ⟨i, hi, hzz⟩ := Option.map_eq_some_iff.1 info23
  simp only [Prod.mk.injEq] at hzz
  obtain ⟨hz, hs, hb⟩ := hzz
  have := run_make (P := Try.prog) W 46 23 i _ Try.underlying46 hi hz .i64 .i64 n n (by omega) (by omega) (by rw [hb]; omega) (by omega)
  simpa [hs, Value.cells] using this
theorem run_made2 (W : World) : (Instr.makeSlice 46 (.int .i64 2) (.int .i64 2)).run Try.prog W = .ok (.slice (some ⟨W.heap.size, 0, none⟩) 2 2) (W.alloc (.cells #[.int .i64 0, .int .i64 0, .int .i64 0, .int .i64 0, .int .i64 0, .int .i64 0, .int .i64 0, .int .i64 0, .int .i64 0, .int .i64 0] 23)) := by
  have h := run_made 2 (by omega) W
  rw [show madeCells #[Value.int IntKind.i64 0, .int .i64 0, .int .i64 0, .int .i64 0, .int .i64 0] (2 * 5) = #[.int .i64 0, .int .i64 0, .int .i64 0, .int .i64 0, .int .i64 0, .int .i64 0, .int .i64 0, .int .i64 0, .int .i64 0, .int .i64 0] by kernel_rfl] at h
  exact h
set_option maxHeartbeats 2000000 in
theorem split_sample (b1 b2 : Nat) (w : World) (c0 : w.cell? ⟨b1, 0, none⟩ = some (.int .i64 4)) (c1 : w.cell? ⟨b1, 1, none⟩ = some (.int .i64 6)) (n0 : w.cell? ⟨b2, 0, none⟩ = some (.int .i64 1)) (n1 : w.cell? ⟨b2, 1, none⟩ = some (.int .i64 2)) :
    Calls Try.prog 24 #[bk 10 3 2 20 100, .slice (some ⟨b1, 0, none⟩) 2 2, .slice (some ⟨b2, 0, none⟩) 2 2] w fun e w' => ∃ g, e = .returned (.tuple #[.slice (some ⟨g, 0, none⟩) 2 2, .int .i64 0]) ∧ w'.cell? ⟨g, 3, none⟩ = some (.int .i64 8) ∧ w'.cell? ⟨g, 8, none⟩ = some (.int .i64 12) ∧ Below w.heap.size w w' := by
  have i1 : IntsA .i64 w (some ⟨b1, 0, none⟩) [4, 6] := fun k hk => by
    match k, hk with
    | 0, _ => exact ⟨b1, 0, rfl, c0, by decide⟩
    | 1, _ => exact ⟨b1, 0, rfl, c1, by decide⟩
  have i2 : IntsA .i64 w (some ⟨b2, 0, none⟩) [1, 2] := fun k hk => by
    match k, hk with
    | 0, _ => exact ⟨b2, 0, rfl, n0, by decide⟩
    | 1, _ => exact ⟨b2, 0, rfl, n1, by decide⟩
  have I1 := Lib.hid i1; have I2 := Lib.hid i2
  have a1 := fun (W : World) (hb : Below w.heap.size w W) => addUp_any 10 [4, 6] (some ⟨b1, 0, none⟩) 2 W (by omega) (by omega) (I1.out.mono hb) (by simp)
  have a2 := fun (W : World) (hb : Below w.heap.size w W) => addUp_any 3 [1, 2] (some ⟨b2, 0, none⟩) 2 W (by omega) (by omega) (I2.out.mono hb) (by simp)
  have A1 := Lib.hid a1; have A2 := Lib.hid a2
  have zb1 := block_lt_of_cell c0
  have zb2 := block_lt_of_cell n0
  simp only at zb1 zb2
  clear i1 i2 a1 a2
  go_enter Try.func24, Try.ntmps24
  go_wp2_with fail
  refine (valid_yes _ _ _ _ _ _ (by unfold OkB; omega)).mono ?_
  rintro e w1 ⟨rfl, hb1⟩
  have B1 : Below w.heap.size w w1 := bt (by (repeat' (first | (with_reducible exact Below.refl _ _) | (with_reducible assumption) | (with_reducible refine Below.alloc ?_ ?_ _) | (with_reducible refine Below.drew ?_) | (with_reducible refine below_dn ?_) | (with_reducible refine Below.setCell ?_ ?_ _) | (with_reducible exact Nat.le_refl _) | omega | (simp only [World.size_alloc, World.size_setCell, World.size_drew]; omega) | (simp; omega) | (simp; done)))) hb1
  have s1 : w.heap.size ≤ w1.heap.size := B1.size
  have z1 : w.heap.size < w1.heap.size := by (have := hb1.size; (try simp at this); omega)
  have d0 : w1.cell? ⟨w.heap.size, 0, none⟩ = some (.int .i64 10) := keep (by go_cell) hb1
  have d1 : w1.cell? ⟨w.heap.size, 1, none⟩ = some (.int .i64 3) := keep (by go_cell) hb1
  have d2 : w1.cell? ⟨w.heap.size, 2, none⟩ = some (.int .i64 2) := keep (by go_cell) hb1
  have d3 : w1.cell? ⟨w.heap.size, 3, none⟩ = some (.int .i64 20) := keep (by go_cell) hb1
  have d4 : w1.cell? ⟨w.heap.size, 4, none⟩ = some (.int .i64 100) := keep (by go_cell) hb1
  have e0 := keep c0 B1; have e1 := keep c1 B1; have e2 := keep n0 B1; have e3 := keep n1 B1
  clear hb1 c0 c1 n0 n1
  go_wp2_with fail
  refine (within_yes _ _ _ _ (by omega) (by omega)).mono ?_
  rintro e w1b ⟨rfl, rfl⟩
  go_wp2_with fail
  refine (A1.out _ B1).mono ?_
  rintro e w1b ⟨rfl, rfl⟩
  rw [show addB 10 [4, 6] = true by decide +kernel]
  go_wp2_with fail
  refine (A2.out _ B1).mono ?_
  rintro e w1b ⟨rfl, rfl⟩
  rw [show addB 3 [1, 2] = true by decide +kernel]
  have hmk := run_made2
  go_wp2
  clear hmk
  have hz1 := z1
  obtain ⟨g, hg⟩ : ∃ g, w1b.heap.size = g := ⟨_, rfl⟩
  obtain ⟨W0, hW0⟩ : ∃ W0, w1b.alloc (Obj.cells #[.int .i64 0, .int .i64 0, .int .i64 0, .int .i64 0, .int .i64 0, .int .i64 0, .int .i64 0, .int .i64 0, .int .i64 0, .int .i64 0] 23) = W0 := ⟨_, rfl⟩
  have BW : Below g w1b W0 := by rw [← hW0, ← hg]; exact (Below.refl _ _).alloc (Nat.le_refl _) _
  have sW : g < W0.heap.size := by rw [← hW0, ← hg]; simp
  have r0 : ∀ j, j < 10 → W0.cell? ⟨g, j, none⟩ = some (.int .i64 0) := fun j hj => by
    rw [← hW0, ← hg]
    match j, hj with
    | 0, _ => simp [go_sem]
    | 1, _ => simp [go_sem]
    | 2, _ => simp [go_sem]
    | 3, _ => simp [go_sem]
    | 4, _ => simp [go_sem]
    | 5, _ => simp [go_sem]
    | 6, _ => simp [go_sem]
    | 7, _ => simp [go_sem]
    | 8, _ => simp [go_sem]
    | 9, _ => simp [go_sem]
  have rf : ∀ j, W0.frozen? ⟨g, j, none⟩ = false := fun j => by rw [← hW0, ← hg]; simp [go_sem]
  rw [hW0, hg]
  rw [hg] at z1 hz1
  have RF := Lib.hid rf
  have R0 := Lib.hid r0
  clear rf r0 hW0
  go_loopw [9, 49] (fun lf i wr => Below g w1b wr ∧ g < wr.heap.size ∧ Hid (∀ j, wr.frozen? ⟨g, j, none⟩ = false) ∧ Hid (∀ j, j < 10 → ∃ v, wr.cell? ⟨g, j, none⟩ = some v) ∧
    ((i = .int .i64 0 ∧ lf = .int .i64 20) ∨ (i = .int .i64 1 ∧ lf = .int .i64 12 ∧ wr.cell? ⟨g, 3, none⟩ = some (.int .i64 8)) ∨ (i = .int .i64 2 ∧ lf = .int .i64 0 ∧ wr.cell? ⟨g, 3, none⟩ = some (.int .i64 8) ∧ wr.cell? ⟨g, 8, none⟩ = some (.int .i64 12)))) (fun _ i _ => 2 - (intOf i).toNat)
  case atStart => exact ⟨BW, sW, RF, fun j hj => ⟨_, R0.out j hj⟩, Or.inl ⟨rfl, rfl⟩⟩
  case round =>
    obtain ⟨B, sr, hf, hv, hc⟩ := hrel
    have lt : ∀ {b o : Nat} {v : Value}, w1b.cell? ⟨b, o, none⟩ = some v → wr.cell? ⟨b, o, none⟩ = some v := fun {b o v} h => by
      rw [B.cell (p := ⟨b, o, none⟩) (by have := block_lt_of_cell h; rw [hg] at this; exact this)]; exact h
    have x2 := lt d2; have x4 := lt d4
    have y0 := lt e0; have y1 := lt e1; have y2 := lt e2; have y3 := lt e3
    clear lt
    obtain ⟨q0, w0⟩ := hv.out 0 (by omega); obtain ⟨q1, w1⟩ := hv.out 1 (by omega); obtain ⟨q2, w2⟩ := hv.out 2 (by omega); obtain ⟨q3, w3⟩ := hv.out 3 (by omega); obtain ⟨q4, w4⟩ := hv.out 4 (by omega)
    obtain ⟨q5, w5⟩ := hv.out 5 (by omega); obtain ⟨q6, w6⟩ := hv.out 6 (by omega); obtain ⟨q7, w7⟩ := hv.out 7 (by omega); obtain ⟨q8, w8⟩ := hv.out 8 (by omega); obtain ⟨q9, w9⟩ := hv.out 9 (by omega)
    have hf' := hf.out
    rcases hc with ⟨rfl, rfl⟩ | ⟨rfl, rfl, k1⟩ | ⟨rfl, rfl, k1, k2⟩
    · go_wp2
      go_quiet ((go_at_call 30; exact Calls.quiet_of_same (atMost_any _ _ _)))
      try simp only [show (min 20 8 : Int) = 8 by decide, show (min 12 12 : Int) = 12 by decide]
      go_wp2
      refine wp_region_still_tail 17 (by kernel_rfl) (by kernel_rfl) ?_
      simp only [List.take_succ_cons, List.take_zero, List.drop_succ_cons, List.drop_zero]
      show wpStill _ _ (World.drew _) _ _ _
      repeat still_step
      refine wpStill_nil ?_
      show wpList _ _ _ _ _ (World.drew _)
      go_wp2
      go_roundw
      case rel =>
        have v0 : (wr.drewN (nq + 1)).cell? ⟨g, 0, none⟩ = some q0 := by simp [go_sem]; exact w0
        have v1 : (wr.drewN (nq + 1)).cell? ⟨g, 1, none⟩ = some q1 := by simp [go_sem]; exact w1
        have v2 : (wr.drewN (nq + 1)).cell? ⟨g, 2, none⟩ = some q2 := by simp [go_sem]; exact w2
        have v3 : (wr.drewN (nq + 1)).cell? ⟨g, 3, none⟩ = some q3 := by simp [go_sem]; exact w3
        have v4 : (wr.drewN (nq + 1)).cell? ⟨g, 4, none⟩ = some q4 := by simp [go_sem]; exact w4
        have v5 : (wr.drewN (nq + 1)).cell? ⟨g, 5, none⟩ = some q5 := by simp [go_sem]; exact w5
        have v6 : (wr.drewN (nq + 1)).cell? ⟨g, 6, none⟩ = some q6 := by simp [go_sem]; exact w6
        have v7 : (wr.drewN (nq + 1)).cell? ⟨g, 7, none⟩ = some q7 := by simp [go_sem]; exact w7
        have v8 : (wr.drewN (nq + 1)).cell? ⟨g, 8, none⟩ = some q8 := by simp [go_sem]; exact w8
        have v9 : (wr.drewN (nq + 1)).cell? ⟨g, 9, none⟩ = some q9 := by simp [go_sem]; exact w9
        refine ⟨?_, ?_, ?_, ?_, Or.inr (Or.inl ⟨rfl, rfl, by go_cell⟩)⟩
        · (repeat' (first | (with_reducible exact Below.refl _ _) | (with_reducible assumption) | (with_reducible refine Below.alloc ?_ ?_ _) | (with_reducible refine Below.drew ?_) | (with_reducible refine below_dn ?_) | (with_reducible refine Below.setCell ?_ ?_ _) | (with_reducible exact Nat.le_refl _) | omega | (simp only [World.size_alloc, World.size_setCell, World.size_drew]; omega) | (simp; omega) | (simp; done)))
        · simp; omega
        · intro j; show World.frozen? _ _ = _; (repeat rw [World.frozen?_setCell]); first | exact hf.out j | (simp [go_sem]; exact hf.out j) | (simp [go_sem, hf.out])
        · intro j hj
          match j, hj with
          | 0, _ => exact ⟨_, by go_cell⟩
          | 1, _ => exact ⟨_, by go_cell⟩
          | 2, _ => exact ⟨_, by go_cell⟩
          | 3, _ => exact ⟨_, by go_cell⟩
          | 4, _ => exact ⟨_, by go_cell⟩
          | 5, _ => exact ⟨_, by go_cell⟩
          | 6, _ => exact ⟨_, by go_cell⟩
          | 7, _ => exact ⟨_, by go_cell⟩
          | 8, _ => exact ⟨_, by go_cell⟩
          | 9, _ => exact ⟨_, by go_cell⟩
      case measure => simp [intOf]
    · have e3 := Option.some.inj (w3.symm.trans k1)
      subst e3
      go_wp2
      go_quiet ((go_at_call 30; exact Calls.quiet_of_same (atMost_any _ _ _)))
      try simp only [show (min 20 8 : Int) = 8 by decide, show (min 12 12 : Int) = 12 by decide]
      go_wp2
      refine wp_region_still_tail 17 (by kernel_rfl) (by kernel_rfl) ?_
      simp only [List.take_succ_cons, List.take_zero, List.drop_succ_cons, List.drop_zero]
      show wpStill _ _ (World.drew _) _ _ _
      repeat still_step
      refine wpStill_nil ?_
      show wpList _ _ _ _ _ (World.drew _)
      go_wp2
      go_roundw
      case rel =>
        have v0 : (wr.drewN (nq + 1)).cell? ⟨g, 0, none⟩ = some q0 := by simp [go_sem]; exact w0
        have v1 : (wr.drewN (nq + 1)).cell? ⟨g, 1, none⟩ = some q1 := by simp [go_sem]; exact w1
        have v2 : (wr.drewN (nq + 1)).cell? ⟨g, 2, none⟩ = some q2 := by simp [go_sem]; exact w2
        have v3 : (wr.drewN (nq + 1)).cell? ⟨g, 3, none⟩ = some (.int .i64 8) := by simp [go_sem]; exact k1
        have v4 : (wr.drewN (nq + 1)).cell? ⟨g, 4, none⟩ = some q4 := by simp [go_sem]; exact w4
        have v5 : (wr.drewN (nq + 1)).cell? ⟨g, 5, none⟩ = some q5 := by simp [go_sem]; exact w5
        have v6 : (wr.drewN (nq + 1)).cell? ⟨g, 6, none⟩ = some q6 := by simp [go_sem]; exact w6
        have v7 : (wr.drewN (nq + 1)).cell? ⟨g, 7, none⟩ = some q7 := by simp [go_sem]; exact w7
        have v8 : (wr.drewN (nq + 1)).cell? ⟨g, 8, none⟩ = some q8 := by simp [go_sem]; exact w8
        have v9 : (wr.drewN (nq + 1)).cell? ⟨g, 9, none⟩ = some q9 := by simp [go_sem]; exact w9
        refine ⟨?_, ?_, ?_, ?_, Or.inr (Or.inr ⟨rfl, rfl, by go_cell, by go_cell⟩)⟩
        · (repeat' (first | (with_reducible exact Below.refl _ _) | (with_reducible assumption) | (with_reducible refine Below.alloc ?_ ?_ _) | (with_reducible refine Below.drew ?_) | (with_reducible refine below_dn ?_) | (with_reducible refine Below.setCell ?_ ?_ _) | (with_reducible exact Nat.le_refl _) | omega | (simp only [World.size_alloc, World.size_setCell, World.size_drew]; omega) | (simp; omega) | (simp; done)))
        · simp; omega
        · intro j; show World.frozen? _ _ = _; (repeat rw [World.frozen?_setCell]); first | exact hf.out j | (simp [go_sem]; exact hf.out j) | (simp [go_sem, hf.out])
        · intro j hj
          match j, hj with
          | 0, _ => exact ⟨_, by go_cell⟩
          | 1, _ => exact ⟨_, by go_cell⟩
          | 2, _ => exact ⟨_, by go_cell⟩
          | 3, _ => exact ⟨_, by go_cell⟩
          | 4, _ => exact ⟨_, by go_cell⟩
          | 5, _ => exact ⟨_, by go_cell⟩
          | 6, _ => exact ⟨_, by go_cell⟩
          | 7, _ => exact ⟨_, by go_cell⟩
          | 8, _ => exact ⟨_, by go_cell⟩
          | 9, _ => exact ⟨_, by go_cell⟩
      case measure => simp [intOf]
    · go_wp2
      go_ret2
      exact ⟨g, rfl, k1, k2, Below.trans (b := w1b) B1 (B.mono (by rw [← hg]; exact s1))⟩
end Go.Proofs.Ytigalbgailnicaa
