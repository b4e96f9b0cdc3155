/- The reference's Split. -/
import Derived.Test.YtigalbgailnicaaR6
import Derived.Deep.RegionHeld3
import Derived.Deep.AppendLies
namespace Go.Proofs.Ytigalbgailnicaa
set_option linter.unusedVariables false
set_option linter.unusedSimpArgs false
open Go.RowKit
/-- The numbers of part k in a row's list of cells. -/
def CellsAre (xs : List Value) (k : Nat) (b : Bk) : Prop := xs[k * 5]? = some (.int .i64 b.c) ∧ xs[k * 5 + 1]? = some (.int .i64 b.n) ∧ xs[k * 5 + 2]? = some (.int .i64 b.d) ∧ xs[k * 5 + 3]? = some (.int .i64 b.l) ∧ xs[k * 5 + 4]? = some (.int .i64 b.a)
theorem CellsAre.more {xs ys : List Value} {k : Nat} {b : Bk} (h : CellsAre xs k b) (hl : k * 5 + 4 < xs.length) : CellsAre (xs ++ ys) k b := by
  obtain ⟨h0, h1, h2, h3, h4⟩ := h
  refine ⟨?_, ?_, ?_, ?_, ?_⟩ <;> (rw [List.getElem?_append_left (by omega)]; assumption)
theorem CellsAre.new (xs : List Value) (k : Nat) (b : Bk) (hl : xs.length = k * 5) : CellsAre (xs ++ [.int .i64 b.c, .int .i64 b.n, .int .i64 b.d, .int .i64 b.l, .int .i64 b.a]) k b := by
  refine ⟨?_, ?_, ?_, ?_, ?_⟩ <;> (rw [List.getElem?_append_right (by omega), hl]; simp)
/-- What an own row of buckets holds. -/
theorem own_parts {w : World} {base n : Nat} {v : Value} {xs : List Value} (h : w.ownsRow base 23 5 v n xs) (hn : 0 < n) :
    ∃ g cap, v = .slice (some ⟨g, 0, none⟩) n cap ∧ base ≤ g ∧ ∀ k b, k < n → CellsAre xs k b → PartIs w g k b := by
  obtain ⟨hl, hr⟩ := h
  rcases hr with ⟨_, h0⟩ | ⟨g, cap, cur, rfl, hb, hg, hc, hm, hs, ht⟩
  · omega
  · refine ⟨g, cap, rfl, hb, fun k b hk hx => ?_⟩
    have e : ∀ o, o < n * 5 → w.cell? ⟨g, o, none⟩ = xs[o]? := fun o ho => by
      have e1 : w.cell? ⟨g, o, none⟩ = cur[o]? := by simp [World.cell?, hg]
      have e2 : (cur.toList.take (n * 5))[o]? = cur[o]? := by rw [List.getElem?_take, if_pos ho]; simp
      rw [e1, ← e2, ht]
    obtain ⟨h0, h1, h2, h3, h4⟩ := hx
    exact ⟨(e _ (by omega)).trans h0, (e _ (by omega)).trans h1, (e _ (by omega)).trans h2, (e _ (by omega)).trans h3, (e _ (by omega)).trans h4⟩
theorem own_draw {w : World} {base e size n q : Nat} {v : Value} {xs : List Value} (h : w.ownsRow base e size v n xs) : (w.drewN q).ownsRow base e size v n xs := own_keep h fun _ _ _ => rfl
set_option maxRecDepth 100000 in
set_option maxHeartbeats 2000000 in
theorem splitref_ok (c n d l a : Int) (ac an : Option Addr) (capc capn : Nat) (cs ns : List Int) (w : World) (h : OkB c n d l a) (hc : IntsA .i64 w ac cs) (hn : IntsA .i64 w an ns) (h1 : 1 ≤ cs.length) (h2 : cs.length ≤ 64) (h3 : ns.length = cs.length)
    (hbc : addB c cs = true) (hbn : addB n ns = true) :
    Calls Try.prog 26 #[bk c n d l a, .slice ac cs.length capc, .slice an cs.length capn] w fun e w' => ∃ g cap, e = .returned (par (.slice (some ⟨g, 0, none⟩) cs.length cap) 0) ∧ w.heap.size ≤ g ∧ (∀ k, k < cs.length → PartIs w' g k (partK l d a cs ns k)) ∧ Below w.heap.size w w' := by
  obtain ⟨i0, hi, hz0, hz1, hz2⟩ := info_parts info23
  have HC := Lib.hid hc; have HN := Lib.hid hn; have HH := Lib.hid h
  obtain ⟨p1, p2⟩ := h.prod
  obtain ⟨g1, g2, g3, g4, g5, g6, g7, g8, g9, g10⟩ := h
  have g8b : l ≤ 1125899906842624 := by omega
  have a1 := fun (W : World) (hb : Below w.heap.size w W) => sums_any c cs ac capc W g1 g2 (HC.out.mono hb) (by omega)
  have a2 := fun (W : World) (hb : Below w.heap.size w W) => sums_any n ns an capn W g3 (by omega) (HN.out.mono hb) (by omega)
  rw [h3] at a2
  have A1 := Lib.hid a1; have A2 := Lib.hid a2
  have BC := Lib.hid (addB_bd cs c hbc); have BN := Lib.hid (addB_bd ns n hbn)
  have BL := Lib.hid (leftK_bd l d cs g7 (by omega) (fun k hk => (BC.out k hk).1))
  have E1 := Lib.hid hbc; have E2 := Lib.hid hbn
  have E3 := Lib.hid h3
  clear hc hn a1 a2 g8 p1 p2 hbc hbn h3
  go_enter Try.func26, Try.ntmps26
  go_wp2_with fail
  refine (validref_yes _ _ _ _ _ _ HH.out).mono ?_
  rintro e w1 ⟨rfl, hb1⟩
  have B1 : Below w.heap.size w w1 := bt (by (repeat' (first | (with_reducible exact Below.refl _ _) | (with_reducible assumption) | (with_reducible refine Below.alloc ?_ ?_ _) | (with_reducible refine Below.drew ?_) | (with_reducible refine below_dn ?_) | (with_reducible refine Below.setCell ?_ ?_ _) | (with_reducible exact Nat.le_refl _) | omega | (simp only [World.size_alloc, World.size_setCell, World.size_drew]; omega) | (simp; omega) | (simp; done)))) hb1
  have z1 : w.heap.size < w1.heap.size := by (have := hb1.size; (try simp at this); omega)
  have z2 : w.heap.size + 1 < w1.heap.size := by (have := hb1.size; (try simp at this); omega)
  have d0 : w1.cell? ⟨w.heap.size, 0, none⟩ = some (.int .i64 c) := keep (by go_cell) hb1
  have d1 : w1.cell? ⟨w.heap.size, 1, none⟩ = some (.int .i64 n) := keep (by go_cell) hb1
  have d2 : w1.cell? ⟨w.heap.size, 2, none⟩ = some (.int .i64 d) := keep (by go_cell) hb1
  have d3 : w1.cell? ⟨w.heap.size, 3, none⟩ = some (.int .i64 l) := keep (by go_cell) hb1
  have d4 : w1.cell? ⟨w.heap.size, 4, none⟩ = some (.int .i64 a) := keep (by go_cell) hb1
  have r0 : w1.cell? ⟨w.heap.size + 1, 0, none⟩ = some (.slice none 0 0) := keep (by go_cell) hb1
  have r1 : w1.cell? ⟨w.heap.size + 1, 1, none⟩ = some (.int .i64 0) := keep (by go_cell) hb1
  have rf : ∀ o, w1.frozen? ⟨w.heap.size + 1, o, none⟩ = false := fun o => (hb1.frozen (p := ⟨w.heap.size + 1, o, none⟩) (by simp)).trans (by simp [go_sem])
  clear hb1
  go_wp2_with fail
  refine (A1.out _ B1).mono ?_
  rintro e w1b ⟨rfl, rfl⟩
  rw [E1.out]
  go_wp2_with fail
  refine (A2.out _ B1).mono ?_
  rintro e w1b ⟨rfl, rfl⟩
  rw [E2.out]
  go_wp2
  have RF := Lib.hid rf
  clear rf
  go_loopw [7, 8, 9] (fun lf vv ii wr => ∃ (i : Nat) (xs : List Value), i ≤ cs.length ∧ ii = .int .i64 i ∧ lf = .int .i64 (leftK l d cs i) ∧ Hid (wr.ownsRow w1.heap.size 23 5 vv i xs) ∧ Hid (∀ k, k < i → CellsAre xs k (partK l d a cs ns k)) ∧ Below w1.heap.size w1 wr) (fun _ _ ii _ => cs.length - (intOf ii).toNat)
  case atStart => exact ⟨0, [], by omega, rfl, rfl, World.ownsRow_nil _ _ _ _, fun k hk => absurd hk (by omega), Below.refl _ _⟩
  case round =>
    obtain ⟨i, xs, hi', rfl, rfl, how, hxs, B⟩ := hrel
    obtain ⟨b1, b2⟩ := BL.out i hi'
    by_cases hlt : i < cs.length
    · obtain ⟨bc, oc, rfl, q1, -⟩ := HC.out i hlt
      obtain ⟨bn, on, rfl, q2, -⟩ := HN.out i (by have := E3.out; omega)
      have lc1 : bc < w.heap.size := block_lt_of_cell q1
      have ln1 : bn < w.heap.size := block_lt_of_cell q2
      have cb := BC.out i hlt
      have x2 := keep d2 B
      have x4 := keep d4 B
      have y1 := keep (keep q1 B1) B
      have y2 := keep (keep q2 B1) B
      have zr := B.size
      obtain ⟨x, hx⟩ : ∃ x, cs.getD i 0 = x := ⟨_, rfl⟩
      obtain ⟨y, hy⟩ : ∃ y, ns.getD i 0 = y := ⟨_, rfl⟩
      rw [hx] at y1 cb
      rw [hy] at y2
      obtain ⟨m1, m2⟩ := mul_bd x d 1073741824 1048576 cb.1 (by omega) (by omega) g6
      obtain ⟨P, hP⟩ : ∃ P, x * d = P := ⟨_, rfl⟩
      rw [hP] at m1 m2
      have hpk : partK l d a cs ns i = ⟨x, y, d, min (leftK l d cs i) P, a⟩ := by unfold partK; rw [hx, hy, hP]
      have hlk : leftK l d cs (i + 1) = leftK l d cs i - min (leftK l d cs i) P := by show _ - min _ (_ * d) = _; rw [hx, hP]
      obtain ⟨K, hK⟩ : ∃ K, leftK l d cs i = K := ⟨_, rfl⟩
      rw [hK] at b1 b2 hpk hlk ⊢
      have HPK := Lib.hid hpk
      have HLK := Lib.hid hlk
      have wP : IntKind.i64.wrap P = P := by rw [IntKind.wrap_i64]; omega
      clear hx hy hpk hlk q1 q2 cb
      go_wp2
      go_quiet (fail)
      go_wp2
      have rw5 : ∀ k, Value.ownBlock u8 = some k → w1.heap.size ≤ k := fun k hk => (own_lt how.out k hk).1
      have RW := Lib.hid rw5
      clear rw5
      obtain ⟨wz, hwz⟩ : ∃ W, wr.drewN nq = W := ⟨_, rfl⟩
      rw [hwz]
      have Bz : Below wr.heap.size wr wz := by rw [← hwz]; exact below_dn (Below.refl _ _)
      have OW := Lib.hid (show wz.ownsRow w1.heap.size 23 5 u8 i xs by rw [← hwz]; exact own_draw how.out)
      have X2 := keep x2 Bz
      have X4 := keep x4 Bz
      have Y1 := keep y1 Bz
      have Y2 := keep y2 Bz
      have zz := Bz.size
      have BZ : Below w1.heap.size w1 wz := bt B Bz
      have lc := block_lt_of_cell Y1
      have ln := block_lt_of_cell Y2
      have lw := block_lt_of_cell X2
      simp only at lc ln lw
      clear hwz x2 x4 y1 y2 Bz
      go_region_held3 (fun w' => w'.cell? ⟨w.heap.size, 2, none⟩ = some (.int .i64 d) ∧ w'.cell? ⟨w.heap.size, 4, none⟩ = some (.int .i64 a) ∧ w'.cell? ⟨bc, oc + i, none⟩ = some (.int .i64 x) ∧ w'.cell? ⟨bn, on + i, none⟩ = some (.int .i64 y))
        (first
          | go_keep
          | (refine ⟨?_, ?_, ?_, ?_⟩
             · (rw [hgrow.cell_far _ (by simp; omega) (fun e => by have := RW.out _ e.symm; simp at this; omega)]; simp [go_sem, *])
             · (rw [hgrow.cell_far _ (by simp; omega) (fun e => by have := RW.out _ e.symm; simp at this; omega)]; simp [go_sem, *])
             · (rw [hgrow.cell_far _ (by simp; omega) (fun e => by have := RW.out _ e.symm; simp at this; omega)]; simp [go_sem, *])
             · (rw [hgrow.cell_far _ (by simp; omega) (fun e => by have := RW.out _ e.symm; simp at this; omega)]; simp [go_sem, *])))
        ((refine step_append_lies _ (by rfl) _ _ _ (by rfl) w1.heap.size 23 i0 _ 5 40 Try.underlying46 hi hz0 hz1 hz2 rfl (by omega) u8 i xs (by rfl) ((OW.out.alloc _).drew)
            ⟨wz.heap.size, 0, none⟩ 1 1 [.int .i64 x, .int .i64 y, .int .i64 d, .int .i64 (min K P), .int .i64 a] (by rfl) (by rfl) (World.news_of_block (cs := #[.int .i64 x, .int .i64 y, .int .i64 d, .int .i64 (min K P), .int .i64 a]) (t := 23) (fr := (0, 0)) (heap_alloc_new wz _)) (by simp [Value.oneCell'])
            (by omega) (by unfold maxLen; omega) (by omega) (by simp; omega) (wz.heap.size + 1) (by simp) ?_; intro gg cap5 w5 own5 hgrow hat hlt5))
      have B5 : Below w1.heap.size w1 w5 := grown_below (by (repeat' (first | (with_reducible exact Below.refl _ _) | (with_reducible assumption) | (with_reducible refine Below.alloc ?_ ?_ _) | (with_reducible refine Below.drew ?_) | (with_reducible refine below_dn ?_) | (with_reducible refine Below.setCell ?_ ?_ _) | (with_reducible exact Nat.le_refl _) | omega | (simp only [World.size_alloc, World.size_setCell, World.size_drew]; omega) | (simp; omega) | (simp; done)))) hgrow RW.out (by simp; omega)
      have O5 := Lib.hid own5
      clear own5 hgrow hat hlt5
      go_wp2
      go_roundw
      case rel =>
        refine ⟨i + 1, _, by omega, by go_num, by rw [HLK.out], O5.out, ?_, B5⟩
        intro k hk
        have hxl := how.out.1
        by_cases hki : k < i
        · exact (hxs.out k hki).more (by omega)
        · obtain rfl : k = i := by omega
          rw [HPK.out]
          exact CellsAre.new xs k ⟨x, y, d, min K P, a⟩ (by omega)
      case measure => simp [intOf]; omega
    · obtain rfl : i = cs.length := by omega
      obtain ⟨g, cap, rfl, hgb, hpp⟩ := own_parts how.out (by omega)
      have y0 := keep r0 B
      have y1 := keep r1 B
      have zr := B.size
      have PP := Lib.hid hpp
      have zz : w.heap.size + 1 < wr.heap.size := by omega
      have ff : ∀ o, wr.frozen? ⟨w.heap.size + 1, o, none⟩ = false := fun o => (B.frozen (p := ⟨w.heap.size + 1, o, none⟩) z2).trans (RF.out o)
      clear hpp
      go_wp2
      refine bodyPost_ret (v := par (.slice (some ⟨g, 0, none⟩) cs.length cap) 0) (by simp [results, Try.results26, go_sem, y0, y1]; try rfl) rfl ⟨g, cap, rfl, by omega, fun k hk => ?_, ?_⟩
      · refine (PP.out k _ hk (hxs.out k hk)).same fun j hj => ?_
        first
        | rfl
        | (rw [World.cell?_setCell_other _ _ _ _ (by first | (simp; done) | (simp; omega)), World.cell?_setCell_other _ _ _ _ (by first | (simp; done) | (simp; omega))])
      · have Bw : Below w.heap.size w wr := Below.trans (b := w1) B1 (B.mono (by omega))
        (repeat' (first | (with_reducible exact Below.refl _ _) | (with_reducible assumption) | (with_reducible refine Below.alloc ?_ ?_ _) | (with_reducible refine Below.drew ?_) | (with_reducible refine below_dn ?_) | (with_reducible refine Below.setCell ?_ ?_ _) | (with_reducible exact Nat.le_refl _) | omega | (simp only [World.size_alloc, World.size_setCell, World.size_drew]; omega) | (simp; omega) | (simp; done)))
end Go.Proofs.Ytigalbgailnicaa
