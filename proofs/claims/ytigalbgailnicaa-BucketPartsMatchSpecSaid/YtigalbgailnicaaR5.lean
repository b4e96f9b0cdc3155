/- Split, in general. -/
import Derived.Test.YtigalbgailnicaaR2
import Derived.Test.YtigalbgailnicaaZ5
import Derived.Deep.Cut
namespace Go.Proofs.Ytigalbgailnicaa
set_option linter.unusedVariables false
set_option linter.unusedSimpArgs false
open Go.RowKit
theorem addB_bd : ∀ (zs : List Int) (s : Int), addB s zs = true → ∀ k, k < zs.length → 0 ≤ zs.getD k 0 ∧ zs.getD k 0 ≤ s
  | [], _, _, k, hk => absurd hk (by simp)
  | z :: zs, s, h, k, hk => by
    simp only [addB, Bool.and_eq_true, decide_eq_true_eq] at h
    cases k with
    | zero => exact h.1
    | succ k =>
      have := addB_bd zs (s - z) h.2 k (by simpa using hk)
      simp only [List.getD_cons_succ]
      omega
/-- What is left of a level behind the first k parts. -/
def leftK (l d : Int) (cs : List Int) : Nat → Int
  | 0 => l
  | k + 1 => leftK l d cs k - min (leftK l d cs k) (cs.getD k 0 * d)
theorem leftK_bd (l d : Int) (cs : List Int) (hl : 0 ≤ l) (hd : 0 ≤ d) (h : ∀ k, k < cs.length → 0 ≤ cs.getD k 0) : ∀ k, k ≤ cs.length → 0 ≤ leftK l d cs k ∧ leftK l d cs k ≤ l
  | 0, _ => by unfold leftK; omega
  | k + 1, hk => by
    have a := leftK_bd l d cs hl hd h k (by omega)
    have : 0 ≤ cs.getD k 0 * d := Int.mul_nonneg (h k (by omega)) hd
    unfold leftK
    omega
def partK (l d a : Int) (cs ns : List Int) (k : Nat) : Bk := ⟨cs.getD k 0, ns.getD k 0, d, min (leftK l d cs k) (cs.getD k 0 * d), a⟩
def parts (l d a : Int) (cs ns : List Int) : List Bk := (List.range cs.length).map (partK l d a cs ns)
theorem parts_len (l d a : Int) (cs ns : List Int) : (parts l d a cs ns).length = cs.length := by simp [parts]
theorem parts_at (l d a : Int) (cs ns : List Int) (k : Nat) (h : k < cs.length) : (parts l d a cs ns).getD k Bk.zero = partK l d a cs ns k := by
  simp [parts, List.getD_eq_getElem?_getD, h]
/-- The cells of part k at the head of a row. -/
def PartIs (W : World) (g k : Nat) (b : Bk) : Prop := W.cell? ⟨g, k * 5, none⟩ = some (.int .i64 b.c) ∧ W.cell? ⟨g, k * 5 + 1, none⟩ = some (.int .i64 b.n) ∧ W.cell? ⟨g, k * 5 + 2, none⟩ = some (.int .i64 b.d) ∧ W.cell? ⟨g, k * 5 + 3, none⟩ = some (.int .i64 b.l) ∧ W.cell? ⟨g, k * 5 + 4, none⟩ = some (.int .i64 b.a)
theorem PartIs.same {W W' : World} {g k : Nat} {b : Bk} (h : PartIs W g k b) (e : ∀ j, j < 5 → W'.cell? ⟨g, k * 5 + j, none⟩ = W.cell? ⟨g, k * 5 + j, none⟩) : PartIs W' g k b :=
  ⟨(e 0 (by omega)).trans h.1, (e 1 (by omega)).trans h.2.1, (e 2 (by omega)).trans h.2.2.1, (e 3 (by omega)).trans h.2.2.2.1, (e 4 (by omega)).trans h.2.2.2.2⟩
theorem some_store {W : World} {g o o' : Nat} {x : Value} (h : ∃ u, W.cell? ⟨g, o, none⟩ = some u) : ∃ u, (W.setCell ⟨g, o', none⟩ x).cell? ⟨g, o, none⟩ = some u := by
  obtain ⟨u, hu⟩ := h
  by_cases e : o = o'
  · subst e
    exact ⟨x, World.cell?_setCell_same' _ _ _ (by rw [hu]; rfl)⟩
  · exact ⟨u, by rw [World.cell?_setCell_other _ _ _ _ (by first | (simp; done) | (simp; omega))]; exact hu⟩
set_option maxRecDepth 100000 in
set_option maxHeartbeats 2000000 in
theorem split_ok (c n d l a : Int) (ac an : Option Addr) (capc capn : Nat) (cs ns : List Int) (w : World) (h : OkB c n d l a) (hc : IntsA .i64 w ac cs) (hn : IntsA .i64 w an ns) (h1 : 1 ≤ cs.length) (h2 : cs.length ≤ 64) (h3 : ns.length = cs.length)
    (hbc : addB c cs = true) (hbn : addB n ns = true) :
    Calls Try.prog 24 #[bk c n d l a, .slice ac cs.length capc, .slice an cs.length capn] w fun e w' => ∃ g, e = .returned (.tuple #[.slice (some ⟨g, 0, none⟩) cs.length cs.length, .int .i64 0]) ∧ w.heap.size ≤ g ∧ (∀ k, k < cs.length → PartIs w' g k (partK l d a cs ns k)) ∧ (∀ o, w'.frozen? ⟨g, o, none⟩ = false) ∧ Below w.heap.size w w' := by
  have HC := Lib.hid hc; have HN := Lib.hid hn; have HH := Lib.hid h
  obtain ⟨p1, p2⟩ := h.prod
  obtain ⟨g1, g2, g3, g4, g5, g6, g7, g8, g9, g10⟩ := h
  have g8b : l ≤ 1125899906842624 := by omega
  have a1 := fun (W : World) (hb : Below w.heap.size w W) => addUp_any c cs ac capc W g1 g2 (HC.out.mono hb) (by omega)
  have a2 := fun (W : World) (hb : Below w.heap.size w W) => addUp_any n ns an capn W g3 (by omega) (HN.out.mono hb) (by omega)
  rw [h3] at a2
  have A1 := Lib.hid a1; have A2 := Lib.hid a2
  have BC := Lib.hid (addB_bd cs c hbc); have BN := Lib.hid (addB_bd ns n hbn)
  have BL := Lib.hid (leftK_bd l d cs g7 (by omega) (fun k hk => (BC.out k hk).1))
  have E1 := Lib.hid hbc; have E2 := Lib.hid hbn
  have E3 := Lib.hid h3
  have hmk := run_made cs.length h2
  have HMK := Lib.hid hmk
  clear hc hn a1 a2 g8 p1 p2 hbc hbn h3 hmk
  go_enter Try.func24, Try.ntmps24
  go_wp2_with fail
  refine (valid_yes _ _ _ _ _ _ HH.out).mono ?_
  rintro e w1 ⟨rfl, hb1⟩
  have B1 : Below w.heap.size w w1 := bt (by (repeat' (first | (with_reducible exact Below.refl _ _) | (with_reducible assumption) | (with_reducible refine Below.alloc ?_ ?_ _) | (with_reducible refine Below.drew ?_) | (with_reducible refine below_dn ?_) | (with_reducible refine Below.setCell ?_ ?_ _) | (with_reducible exact Nat.le_refl _) | omega | (simp only [World.size_alloc, World.size_setCell, World.size_drew]; omega) | (simp; omega) | (simp; done)))) hb1
  have s1 : w.heap.size ≤ w1.heap.size := B1.size
  have z1 : w.heap.size < w1.heap.size := by (have := hb1.size; (try simp at this); omega)
  have d0 : w1.cell? ⟨w.heap.size, 0, none⟩ = some (.int .i64 c) := keep (by go_cell) hb1
  have d1 : w1.cell? ⟨w.heap.size, 1, none⟩ = some (.int .i64 n) := keep (by go_cell) hb1
  have d2 : w1.cell? ⟨w.heap.size, 2, none⟩ = some (.int .i64 d) := keep (by go_cell) hb1
  have d3 : w1.cell? ⟨w.heap.size, 3, none⟩ = some (.int .i64 l) := keep (by go_cell) hb1
  have d4 : w1.cell? ⟨w.heap.size, 4, none⟩ = some (.int .i64 a) := keep (by go_cell) hb1
  clear hb1
  go_wp2_with fail
  refine (within_yes _ _ _ _ (by omega) (by omega)).mono ?_
  rintro e w1b ⟨rfl, rfl⟩
  go_wp2_with fail
  refine (A1.out _ B1).mono ?_
  rintro e w1b ⟨rfl, rfl⟩
  rw [E1.out]
  go_wp2_with fail
  refine (A2.out _ B1).mono ?_
  rintro e w1b ⟨rfl, rfl⟩
  rw [E2.out]
  have hmk := HMK.out
  go_wp2
  clear hmk
  obtain ⟨g, hg⟩ : ∃ g, w1b.heap.size = g := ⟨_, rfl⟩
  obtain ⟨W0, hW0⟩ : ∃ W0, w1b.alloc (Obj.cells (madeCells #[.int .i64 0, .int .i64 0, .int .i64 0, .int .i64 0, .int .i64 0] (cs.length * 5)) 23) = W0 := ⟨_, rfl⟩
  have BW : Below g w1b W0 := by rw [← hW0, ← hg]; exact (Below.refl _ _).alloc (Nat.le_refl _) _
  have sW : g < W0.heap.size := by rw [← hW0, ← hg]; simp
  have r0 : ∀ j, j < cs.length * 5 → ∃ v, W0.cell? ⟨g, j, none⟩ = some v := fun j hj => by
    rw [← hW0, ← hg, World.cell?_alloc_new]
    exact ⟨_, Array.getElem?_eq_getElem (by rw [size_madeCells]; exact hj)⟩
  have rf : ∀ j, W0.frozen? ⟨g, j, none⟩ = false := fun j => by rw [← hW0, ← hg]; simp [go_sem]
  rw [hW0, hg]
  have zg : w.heap.size < g := by omega
  have RF := Lib.hid rf
  have R0 := Lib.hid r0
  have z1' := z1
  clear rf r0 hW0
  go_loopw [9, 49] (fun lf ii wr => ∃ i : Nat, i ≤ cs.length ∧ ii = .int .i64 i ∧ lf = .int .i64 (leftK l d cs i) ∧ Below g w1b wr ∧ g < wr.heap.size ∧ Hid (∀ j, wr.frozen? ⟨g, j, none⟩ = false) ∧ Hid (∀ j, j < cs.length * 5 → ∃ v, wr.cell? ⟨g, j, none⟩ = some v) ∧
    Hid (∀ k, k < i → PartIs wr g k (partK l d a cs ns k))) (fun _ ii _ => cs.length - (intOf ii).toNat)
  case atStart => exact ⟨0, by omega, rfl, rfl, BW, sW, RF, R0, fun k hk => absurd hk (by omega)⟩
  case round =>
    obtain ⟨i, hi, rfl, rfl, B, sr, hf, hv, hpa⟩ := hrel
    obtain ⟨b1, b2⟩ := BL.out i hi
    by_cases hlt : i < cs.length
    · obtain ⟨bc, oc, rfl, q1, -⟩ := HC.out i hlt
      obtain ⟨bn, on, rfl, q2, -⟩ := HN.out i (by have := E3.out; omega)
      have cb := BC.out i hlt
      have lt : ∀ {b o : Nat} {v : Value}, w1b.cell? ⟨b, o, none⟩ = some v → wr.cell? ⟨b, o, none⟩ = some v := fun {b o v} h => by
        rw [B.cell (p := ⟨b, o, none⟩) (by have := block_lt_of_cell h; rw [hg] at this; exact this)]; exact h
      have x2 := lt d2
      have x4 := lt d4
      have y1 := lt (keep q1 B1)
      have y2 := lt (keep q2 B1)
      obtain ⟨x, hx⟩ : ∃ x, cs.getD i 0 = x := ⟨_, rfl⟩
      obtain ⟨y, hy⟩ : ∃ y, ns.getD i 0 = y := ⟨_, rfl⟩
      rw [hx] at y1 cb
      rw [hy] at y2
      obtain ⟨m1, m2⟩ := mul_bd x d 1073741824 1048576 cb.1 (by omega) (by omega) g6
      obtain ⟨P, hP⟩ : ∃ P, x * d = P := ⟨_, rfl⟩
      rw [hP] at m1 m2
      have hpk : partK l d a cs ns i = ⟨x, y, d, min (leftK l d cs i) P, a⟩ := by unfold partK; rw [hx, hy, hP]
      have hlk : leftK l d cs (i + 1) = leftK l d cs i - min (leftK l d cs i) P := by show _ - min _ (_ * d) = _; rw [hx, hP]
      obtain ⟨K, hK⟩ : ∃ K, leftK l d cs i = K := ⟨_, rfl⟩
      rw [hK] at b1 b2 hpk hlk ⊢
      have HPK := Lib.hid hpk
      have HLK := Lib.hid hlk
      have wP : IntKind.i64.wrap P = P := by rw [IntKind.wrap_i64]; omega
      have F := hf.out
      obtain ⟨v0, t0⟩ := hv.out (i * 5) (by omega)
      obtain ⟨v1, t1⟩ := hv.out (i * 5 + 1) (by omega)
      obtain ⟨v2, t2⟩ := hv.out (i * 5 + 2) (by omega)
      obtain ⟨v3, t3⟩ := hv.out (i * 5 + 3) (by omega)
      obtain ⟨v4, t4⟩ := hv.out (i * 5 + 4) (by omega)
      clear hx hy hpk hlk q1 q2 lt cb
      go_wp2
      go_quiet ((go_at_call 30; exact Calls.quiet_of_same (atMost_any _ _ _)))
      go_wp2
      refine wp_region_still_tail 17 (by kernel_rfl) (by kernel_rfl) ?_
      simp only [List.take_succ_cons, List.take_zero, List.drop_succ_cons, List.drop_zero]
      show wpStill _ _ (World.drew _) _ _ _
      repeat still_step
      refine wpStill_nil ?_
      show wpList _ _ _ _ _ (World.drew _)
      go_wp2
      go_roundw
      case rel =>
        have u0 : (wr.drewN (nq + 1)).cell? ⟨g, i * 5, none⟩ = some v0 := by simp [go_sem]; exact t0
        have u1 : (wr.drewN (nq + 1)).cell? ⟨g, i * 5 + 1, none⟩ = some v1 := by simp [go_sem]; exact t1
        have u2 : (wr.drewN (nq + 1)).cell? ⟨g, i * 5 + 2, none⟩ = some v2 := by simp [go_sem]; exact t2
        have u3 : (wr.drewN (nq + 1)).cell? ⟨g, i * 5 + 3, none⟩ = some v3 := by simp [go_sem]; exact t3
        have u4 : (wr.drewN (nq + 1)).cell? ⟨g, i * 5 + 4, none⟩ = some v4 := by simp [go_sem]; exact t4
        refine ⟨i + 1, by omega, by go_num, by rw [HLK.out], by (repeat' (first | (with_reducible exact Below.refl _ _) | (with_reducible assumption) | (with_reducible refine Below.alloc ?_ ?_ _) | (with_reducible refine Below.drew ?_) | (with_reducible refine below_dn ?_) | (with_reducible refine Below.setCell ?_ ?_ _) | (with_reducible exact Nat.le_refl _) | omega | (simp only [World.size_alloc, World.size_setCell, World.size_drew]; omega) | (simp; omega) | (simp; done))), by simp; omega, ?_, ?_, ?_⟩
        · intro j
          show World.frozen? _ _ = _
          (repeat rw [World.frozen?_setCell])
          first
          | exact hf.out j
          | (simp [go_sem]; exact hf.out j)
          | (simp [go_sem, hf.out])
        · intro o ho
          refine some_store (some_store (some_store (some_store (some_store ?_))))
          obtain ⟨v, hv'⟩ := hv.out o ho
          exact ⟨v, by simp [go_sem]; exact hv'⟩
        · intro k hk
          by_cases hki : k < i
          · refine (hpa.out k hki).same fun j hj => ?_
            rw [World.cell?_setCell_other _ _ _ _ (by first | (simp; done) | (simp; omega)), World.cell?_setCell_other _ _ _ _ (by first | (simp; done) | (simp; omega)), World.cell?_setCell_other _ _ _ _ (by first | (simp; done) | (simp; omega)), World.cell?_setCell_other _ _ _ _ (by first | (simp; done) | (simp; omega)), World.cell?_setCell_other _ _ _ _ (by first | (simp; done) | (simp; omega))]
            simp [go_sem]
          · obtain rfl : k = i := by omega
            rw [HPK.out]
            exact ⟨by go_cell, by go_cell, by go_cell, by go_cell, by go_cell⟩
      case measure => simp [intOf]; omega
    · obtain rfl : i = cs.length := by omega
      go_wp2
      go_ret2
      exact ⟨g, rfl, by omega, hpa.out, hf.out, Below.trans (b := w1b) B1 (B.mono (by omega))⟩
end Go.Proofs.Ytigalbgailnicaa
