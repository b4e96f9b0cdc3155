/- The loop that follows a true clock. -/
import Derived.Test.YtnojnfmhinjcpaaT7
import Derived.Test.YtnojnfmhinjcpaaO2
import Derived.Test.YtnojnfmhinjcpaaP8
import Derived.OpenShut
namespace Go.Proofs.Ytnojnfmhinjcpaa
set_option linter.unusedVariables false
set_option linter.unusedSimpArgs false
open Go.RowKit Go.Sort
theorem near_all {ps : List (Int × Int)} {d : Int} (h : honB ps d = true) : ps.all (near d) = true ∧ ps.all okPace = true ∧ rightB ps = true := by
  unfold honB at h
  simp only [Bool.and_eq_true] at h
  have := h.1
  unfold rightB at this
  simp only [Bool.and_eq_true] at this
  exact ⟨h.2, this.1, h.1⟩
/-- What Show says while the clock shows readings, else an error. -/
theorem show_cases {base t : Int} {ps : List (Int × Int)} (hb0 : 0 ≤ base) (hb1 : base ≤ 1099511627776) (h0 : 0 ≤ t) (h1 : t ≤ 1099511627776) (hr : rightB ps = true) :
    (showE base t ps = 2) ∨ (showE base t ps = 0 ∧ showN base t ps = showT base t ps / 1000000 ∧ showT base t ps / 1000000 ≤ 2199023255552) := by
  unfold showE showN
  have : showOk base t ps = true := by unfold showOk; rw [decide_eq_true ⟨hb0, hb1, h0, h1⟩, hr]; rfl
  simp only [if_pos this]
  split
  · exact Or.inr ⟨rfl, rfl, ‹_›⟩
  · exact Or.inl rfl
theorem show_big {base t : Int} {ps : List (Int × Int)} (h1 : 1099511627776 < t) : showE base t ps = 1 := by
  unfold showE
  have : showOk base t ps = false := by unfold showOk; rw [decide_eq_false (by omega)]; rfl
  rw [this]; rfl
theorem show_zero {base t : Int} {ps : List (Int × Int)} (h : showE base t ps = 0) : 0 ≤ base ∧ base ≤ 1099511627776 ∧ 0 ≤ t ∧ t ≤ 1099511627776 ∧ showN base t ps = showT base t ps / 1000000 ∧ showT base t ps / 1000000 ≤ 2199023255552 := by
  cases hk : showOk base t ps with
  | false => unfold showE at h; rw [hk] at h; simp at h
  | true =>
    have k := hk
    unfold showOk at k
    simp only [Bool.and_eq_true, decide_eq_true_eq] at k
    unfold showE at h
    unfold showN
    simp only [if_pos hk] at h ⊢
    split at h
    · exact ⟨k.1.1, k.1.2.1, k.1.2.2.1, k.1.2.2.2, by rw [if_pos ‹_›], ‹_›⟩
    · omega
set_option maxRecDepth 100000 in
set_option maxHeartbeats 4000000 in
theorem follow_any (l lo hi d base t : Int) (a : Option Addr) (cap : Nat) (ps : List (Int × Int)) (a2 : Option Addr) (cap2 : Nat) (st : List Int) (a3 : Option Addr) (cap3 : Nat) (wd : List Int) (w : World)
    (hp : PacesA w a ps) (hm : ps.length ≤ 9223372036854775807) (h2 : IntsA .u32 w a2 st) (hm2 : st.length ≤ 100) (h3 : IntsA .u16 w a3 wd) (hm3 : wd.length ≤ 9223372036854775807)
    (hb0 : 0 ≤ base) (hb1 : base ≤ 1099511627776) (t0 : 0 ≤ t) (t1 : t ≤ 1099511627776) (hh : honB ps d = true) (d0 : 0 ≤ d) (d1 : d ≤ 100000) (s : Int) (hI : Inv base d t l lo hi s ps) :
    Calls Try.prog 39 #[clk l lo hi d, .int .i64 base, .slice a ps.length cap, .int .i64 t, .slice a2 st.length cap2, .slice a3 wd.length cap3] w fun e w' => e = .returned (.bool true) ∧ Below w.heap.size w w' := by
  have HP := Lib.hid hp; clear hp
  have H2 := Lib.hid h2; clear h2
  have H3 := Lib.hid h3; clear h3
  have HH := Lib.hid (near_all hh); clear hh
  have HI := Lib.hid hI; clear hI
  go_enter Try.func39, Try.ntmps39
  go_wp2
  go_loopw [3, 13] (fun tt i wr => ∃ (k : Nat) (t l lo hi s : Int), k ≤ st.length ∧ i = .int .i64 k ∧ tt = .int .i64 t ∧ 0 ≤ t ∧ t ≤ 1099511627776 ∧ Hid (Inv base d t l lo hi s ps) ∧
      Below w.heap.size w wr ∧ wr.cell? ⟨w.heap.size, 0, none⟩ = some (.int .i64 l) ∧ wr.cell? ⟨w.heap.size, 1, none⟩ = some (.int .i64 lo) ∧ wr.cell? ⟨w.heap.size, 2, none⟩ = some (.int .i64 hi) ∧ wr.cell? ⟨w.heap.size, 3, none⟩ = some (.int .i64 d) ∧
      Hid (∀ o, wr.frozen? ⟨w.heap.size, o, none⟩ = false)) (fun _ i _ => st.length - (intOf i).toNat)
  case atStart => exact ⟨0, t, l, lo, hi, s, by omega, rfl, rfl, t0, t1, HI, by (repeat' (first | (with_reducible exact Below.refl _ _) | (with_reducible assumption) | (with_reducible refine Below.alloc ?_ ?_ _) | (with_reducible refine Below.drew ?_) | (with_reducible refine below_dn ?_) | (with_reducible refine Below.setCell ?_ ?_ _) | (with_reducible exact Nat.le_refl _) | omega | (simp only [World.size_alloc, World.size_setCell, World.size_drew]; omega) | (simp; omega) | (simp; done))), by go_cell, by go_cell, by go_cell, by go_cell, fun o => by simp [go_sem]⟩
  case round =>
    clear t0 t1 HI
    obtain ⟨k, t, l, lo, hi, s, hk, rfl, rfl, t0, t1, HI, hB, c0, c1, c2, c3, hf⟩ := hrel
    have zw := block_lt_of_cell c0
    simp only at zw
    have F0 := hf.out 0; have F1 := hf.out 1; have F2 := hf.out 2; have F3 := hf.out 3
    by_cases hlt : k < st.length
    · obtain ⟨b2, o2, rfl, q2, q3⟩ := H2.out k hlt
      obtain ⟨u, hu⟩ : ∃ u, st.getD k 0 = u := ⟨_, rfl⟩
      rw [hu] at q2 q3
      obtain ⟨q4, q5⟩ := bounds_u32 q3
      have g2 : wr.cell? ⟨b2, o2 + k, none⟩ = some (.int .u32 u) := by rw [hB.cell (p := ⟨b2, o2 + k, none⟩) (block_lt_of_cell q2)]; exact q2
      clear q2 q3 hu
      have c5 := fun (W : World) (hb : Below w.heap.size w W) => show_fn base (t + u) a cap ps W (HP.out.mono hb) hm
      by_cases hbig : 1099511627776 < t + u
      · rw [show_big hbig] at c5
        obtain ⟨N, hN⟩ : ∃ z, showN base (t + u) ps = z := ⟨_, rfl⟩
        rw [hN] at c5
        have C5 := Lib.hid c5
        clear c5 hN
        go_wp2_with fail
        refine (C5.out _ (by (repeat' (first | (with_reducible exact Below.refl _ _) | (with_reducible assumption) | (with_reducible refine Below.alloc ?_ ?_ _) | (with_reducible refine Below.drew ?_) | (with_reducible refine below_dn ?_) | (with_reducible refine Below.setCell ?_ ?_ _) | (with_reducible exact Nat.le_refl _) | omega | (simp only [World.size_alloc, World.size_setCell, World.size_drew]; omega) | (simp; omega) | (simp; done))))).mono ?_
        rintro e w1 ⟨rfl, hb1⟩
        go_wp2
        go_ret
        exact ⟨rfl, bt (by (repeat' (first | (with_reducible exact Below.refl _ _) | (with_reducible assumption) | (with_reducible refine Below.alloc ?_ ?_ _) | (with_reducible refine Below.drew ?_) | (with_reducible refine below_dn ?_) | (with_reducible refine Below.setCell ?_ ?_ _) | (with_reducible exact Nat.le_refl _) | omega | (simp only [World.size_alloc, World.size_setCell, World.size_drew]; omega) | (simp; omega) | (simp; done)))) hb1⟩
      · have hsm : t + u ≤ 1099511627776 := by omega
        clear hbig
        rcases show_cases hb0 hb1 (show 0 ≤ t + u by omega) hsm HH.out.2.2 with hE | ⟨hE, hN, hle⟩
        · rw [hE] at c5
          obtain ⟨N, hN⟩ : ∃ z, showN base (t + u) ps = z := ⟨_, rfl⟩
          rw [hN] at c5
          have C5 := Lib.hid c5
          clear c5 hN hE
          go_wp2_with fail
          refine (C5.out _ (by (repeat' (first | (with_reducible exact Below.refl _ _) | (with_reducible assumption) | (with_reducible refine Below.alloc ?_ ?_ _) | (with_reducible refine Below.drew ?_) | (with_reducible refine below_dn ?_) | (with_reducible refine Below.setCell ?_ ?_ _) | (with_reducible exact Nat.le_refl _) | omega | (simp only [World.size_alloc, World.size_setCell, World.size_drew]; omega) | (simp; omega) | (simp; done))))).mono ?_
          rintro e w1 ⟨rfl, hb1⟩
          go_wp2
          go_ret
          exact ⟨rfl, bt (by (repeat' (first | (with_reducible exact Below.refl _ _) | (with_reducible assumption) | (with_reducible refine Below.alloc ?_ ?_ _) | (with_reducible refine Below.drew ?_) | (with_reducible refine below_dn ?_) | (with_reducible refine Below.setCell ?_ ?_ _) | (with_reducible exact Nat.le_refl _) | omega | (simp only [World.size_alloc, World.size_setCell, World.size_drew]; omega) | (simp; omega) | (simp; done)))) hb1⟩
        · obtain ⟨i0, i1, i2, i3, i4, i5⟩ := HI.out
          obtain ⟨n1, n2, n3⟩ := HH.out
          obtain ⟨k1, k2, k3⟩ := contain base d s (t + u) lo hi ps n1 n2 d0 d1 i0 (by omega) hsm i2 i3
          rw [hE, hN] at c5
          rw [← i4] at k1 k2 k3
          obtain ⟨N, hN'⟩ : ∃ z, showT base (t + u) ps / 1000000 = z := ⟨_, rfl⟩
          rw [hN'] at c5 k1 k2 k3 hle
          have i5' := i5
          obtain ⟨j1, j2, j3, j4, j5, j6, j7⟩ := i5'
          have c6 := fun W : World => read_ok l lo hi d N W i5 hle k1
          obtain ⟨p1, p2, p3, p4⟩ := rd_bds j3 j4 j5 j6 j7 (n := N - l) (by omega)
          have hRA := Lib.hid (rfl : rdLo lo d (N - l) = rdLo lo d (N - l))
          obtain ⟨A, hA⟩ : ∃ z, rdLo lo d (N - l) = z := ⟨_, rfl⟩
          obtain ⟨B, hB'⟩ : ∃ z, rdHi hi d (N - l) = z := ⟨_, rfl⟩
          have c7 := fun (x y : Int) (W : World) (v : 0 ≤ x ∧ x ≤ y ∧ y ≤ 1099511627776) (m : max x (rdLo lo d (N - l)) ≤ min y (rdHi hi d (N - l))) => sync_ok l lo hi d N x y W i5 v hle k1 m
          rw [hA, hB'] at c6 c7
          rw [hA] at k2 p1 p2
          rw [hB'] at k3 p3 p4
          have C5 := Lib.hid c5; have C6 := Lib.hid c6; have C7 := Lib.hid c7
          have HN := Lib.hid hN'
          have I5 := Lib.hid i5; have I4 := Lib.hid i4
          clear c5 c6 c7 hE hN hN' n1 n2 n3 i5 i4 hA hB' hRA
          go_wp2_with fail
          refine (C5.out _ (by (repeat' (first | (with_reducible exact Below.refl _ _) | (with_reducible assumption) | (with_reducible refine Below.alloc ?_ ?_ _) | (with_reducible refine Below.drew ?_) | (with_reducible refine below_dn ?_) | (with_reducible refine Below.setCell ?_ ?_ _) | (with_reducible exact Nat.le_refl _) | omega | (simp only [World.size_alloc, World.size_setCell, World.size_drew]; omega) | (simp; omega) | (simp; done))))).mono ?_
          rintro e w1 ⟨rfl, hb1⟩
          have B1 : Below w.heap.size w w1 := bt (by (repeat' (first | (with_reducible exact Below.refl _ _) | (with_reducible assumption) | (with_reducible refine Below.alloc ?_ ?_ _) | (with_reducible refine Below.drew ?_) | (with_reducible refine below_dn ?_) | (with_reducible refine Below.setCell ?_ ?_ _) | (with_reducible exact Nat.le_refl _) | omega | (simp only [World.size_alloc, World.size_setCell, World.size_drew]; omega) | (simp; omega) | (simp; done)))) hb1
          have s1 : w.heap.size ≤ w1.heap.size := B1.size
          have z1 : w.heap.size < w1.heap.size := Nat.lt_of_lt_of_le zw (by have := hb1.size; simpa using this)
          have e0 := keep (b := w.heap.size) (o := 0) (v := .int .i64 l) (by go_cell) hb1
          have e1 := keep (b := w.heap.size) (o := 1) (v := .int .i64 lo) (by go_cell) hb1
          have e2 := keep (b := w.heap.size) (o := 2) (v := .int .i64 hi) (by go_cell) hb1
          have e3 := keep (b := w.heap.size) (o := 3) (v := .int .i64 d) (by go_cell) hb1
          have hf1 : ∀ o, w1.frozen? ⟨w.heap.size, o, none⟩ = false := fun o => (hb1.frozen (p := ⟨w.heap.size, o, none⟩) (by simpa using zw)).trans (hf.out o)
          have HF1 := Lib.hid hf1
          clear hb1 hf1 F0 F1 F2 F3 c0 c1 c2 c3
          go_wp2_with fail
          refine (C6.out _).mono ?_
          rintro e w2 ⟨rfl, hb2⟩
          have B2 : Below w.heap.size w w2 := bt (by (repeat' (first | (with_reducible exact Below.refl _ _) | (with_reducible assumption) | (with_reducible refine Below.alloc ?_ ?_ _) | (with_reducible refine Below.drew ?_) | (with_reducible refine below_dn ?_) | (with_reducible refine Below.setCell ?_ ?_ _) | (with_reducible exact Nat.le_refl _) | omega | (simp only [World.size_alloc, World.size_setCell, World.size_drew]; omega) | (simp; omega) | (simp; done)))) hb2
          have s2 : w.heap.size ≤ w2.heap.size := B2.size
          have z2 : w.heap.size < w2.heap.size := Nat.lt_of_lt_of_le z1 (by have := hb2.size; simpa using this)
          have y0 := keep (b := w.heap.size) (o := 0) (v := .int .i64 l) (by go_cell) hb2
          have y1 := keep (b := w.heap.size) (o := 1) (v := .int .i64 lo) (by go_cell) hb2
          have y2 := keep (b := w.heap.size) (o := 2) (v := .int .i64 hi) (by go_cell) hb2
          have y3 := keep (b := w.heap.size) (o := 3) (v := .int .i64 d) (by go_cell) hb2
          have hf2 : ∀ o, w2.frozen? ⟨w.heap.size, o, none⟩ = false := fun o => (hb2.frozen (p := ⟨w.heap.size, o, none⟩) (by simpa using z1)).trans (HF1.out o)
          have HF2 := Lib.hid hf2
          clear hb2 hf2 e0 e1 e2 e3 HF1
          by_cases hw : k < wd.length
          · obtain ⟨b3, o3, rfl, r2, r3⟩ := H3.out k hw
            obtain ⟨x, hx⟩ : ∃ u, wd.getD k 0 = u := ⟨_, rfl⟩
            rw [hx] at r2 r3
            obtain ⟨r4, r5⟩ := bounds_u16 r3
            have g3 : w2.cell? ⟨b3, o3 + k, none⟩ = some (.int .u16 x) := by rw [B2.cell (p := ⟨b3, o3 + k, none⟩) (block_lt_of_cell r2)]; exact r2
            have zb3 := block_lt_of_cell g3
            simp only at zb3
            clear r2 r3 hx
            by_cases hodd : x % 2 = 1
            · have hod : (x % 2 == 1) = true := by simpa using hodd
              clear hodd
              go_wp2_with fail
              refine (C7.out _ _ _ (by omega) (by omega)).mono ?_
              rintro e w3 ⟨rfl, hb3⟩
              have B3 : Below w.heap.size w w3 := bt (by (repeat' (first | (with_reducible exact Below.refl _ _) | (with_reducible assumption) | (with_reducible refine Below.alloc ?_ ?_ _) | (with_reducible refine Below.drew ?_) | (with_reducible refine below_dn ?_) | (with_reducible refine Below.setCell ?_ ?_ _) | (with_reducible exact Nat.le_refl _) | omega | (simp only [World.size_alloc, World.size_setCell, World.size_drew]; omega) | (simp; omega) | (simp; done)))) hb3
              have s3 : w.heap.size ≤ w3.heap.size := B3.size
              have z3 : w.heap.size < w3.heap.size := Nat.lt_of_lt_of_le z2 (by have := hb3.size; simp at this; omega)
              have v0 : w3.cell? ⟨w.heap.size, 0, none⟩ = some (.int .i64 l) := keep (by rw [World.cell?_alloc_past _ _ _ (by simp; omega), World.cell?_alloc_past _ _ _ z2]; exact y0) hb3
              have v1 : w3.cell? ⟨w.heap.size, 1, none⟩ = some (.int .i64 lo) := keep (by rw [World.cell?_alloc_past _ _ _ (by simp; omega), World.cell?_alloc_past _ _ _ z2]; exact y1) hb3
              have v2 : w3.cell? ⟨w.heap.size, 2, none⟩ = some (.int .i64 hi) := keep (by rw [World.cell?_alloc_past _ _ _ (by simp; omega), World.cell?_alloc_past _ _ _ z2]; exact y2) hb3
              have v3 : w3.cell? ⟨w.heap.size, 3, none⟩ = some (.int .i64 d) := keep (by rw [World.cell?_alloc_past _ _ _ (by simp; omega), World.cell?_alloc_past _ _ _ z2]; exact y3) hb3
              have hf3 : ∀ o, w3.frozen? ⟨w.heap.size, o, none⟩ = false := fun o => (hb3.frozen (p := ⟨w.heap.size, o, none⟩) (by simp; omega)).trans ((frozen?_alloc_cells _ _ _ _).trans ((frozen?_alloc_cells _ _ _ _).trans (HF2.out o)))
              have F0 := hf3 0; have F1 := hf3 1; have F2 := hf3 2; have F3 := hf3 3
              have HF3 := Lib.hid hf3
              clear hb3 hf3 y0 y1 y2 y3 HF2
              go_wp2
              go_roundw
              case rel => 
                refine ⟨k + 1, t + u, N, max (t + u - x % 100) (max 0 A), min (t + u + x % 300) (min 1099511627776 B), t + u, by omega, by go_num, rfl, by omega, hsm, ?_, ?_, ?_, ?_, ?_, ?_, ?_⟩
                · exact ⟨by omega, by omega, by omega, by omega, HN.out.symm, by unfold OkClk; omega⟩
                · (repeat' (first | (with_reducible exact Below.refl _ _) | (with_reducible assumption) | (with_reducible refine Below.alloc ?_ ?_ _) | (with_reducible refine Below.drew ?_) | (with_reducible refine below_dn ?_) | (with_reducible refine Below.setCell ?_ ?_ _) | (with_reducible exact Nat.le_refl _) | omega | (simp only [World.size_alloc, World.size_setCell, World.size_drew]; omega) | (simp; omega) | (simp; done)))
                · rw [World.cell?_alloc_past _ _ _ (by simp; omega)]; go_cell
                · rw [World.cell?_alloc_past _ _ _ (by simp; omega)]; go_cell
                · rw [World.cell?_alloc_past _ _ _ (by simp; omega)]; go_cell
                · rw [World.cell?_alloc_past _ _ _ (by simp; omega)]; go_cell
                · intro o
                  show World.frozen? _ _ = _
                  refine (frozen?_alloc_cells _ _ _ _).trans ?_
                  rw [World.frozen?_setCell, World.frozen?_setCell, World.frozen?_setCell, World.frozen?_setCell]
                  exact HF3.out o
              case measure => simp [intOf]; omega
            · have hod : (x % 2 == 1) = false := by simpa using hodd
              clear hodd
              go_wp2
              go_roundw
              case rel => exact ⟨k + 1, t + u, l, lo, hi, s, by omega, by go_num, rfl, by omega, hsm, ⟨i0, by omega, i2, i3, I4.out, I5.out⟩, by (repeat' (first | (with_reducible exact Below.refl _ _) | (with_reducible assumption) | (with_reducible refine Below.alloc ?_ ?_ _) | (with_reducible refine Below.drew ?_) | (with_reducible refine below_dn ?_) | (with_reducible refine Below.setCell ?_ ?_ _) | (with_reducible exact Nat.le_refl _) | omega | (simp only [World.size_alloc, World.size_setCell, World.size_drew]; omega) | (simp; omega) | (simp; done))), by rw [World.cell?_alloc_past _ _ _ z2]; exact y0, by rw [World.cell?_alloc_past _ _ _ z2]; exact y1, by rw [World.cell?_alloc_past _ _ _ z2]; exact y2, by rw [World.cell?_alloc_past _ _ _ z2]; exact y3, fun o => (frozen?_alloc_cells _ _ _ _).trans (HF2.out o)⟩
              case measure => simp [intOf]; omega
          · go_wp2
            go_roundw
            case rel => exact ⟨k + 1, t + u, l, lo, hi, s, by omega, by go_num, rfl, by omega, hsm, ⟨i0, by omega, i2, i3, I4.out, I5.out⟩, by (repeat' (first | (with_reducible exact Below.refl _ _) | (with_reducible assumption) | (with_reducible refine Below.alloc ?_ ?_ _) | (with_reducible refine Below.drew ?_) | (with_reducible refine below_dn ?_) | (with_reducible refine Below.setCell ?_ ?_ _) | (with_reducible exact Nat.le_refl _) | omega | (simp only [World.size_alloc, World.size_setCell, World.size_drew]; omega) | (simp; omega) | (simp; done))), by rw [World.cell?_alloc_past _ _ _ z2]; exact y0, by rw [World.cell?_alloc_past _ _ _ z2]; exact y1, by rw [World.cell?_alloc_past _ _ _ z2]; exact y2, by rw [World.cell?_alloc_past _ _ _ z2]; exact y3, fun o => (frozen?_alloc_cells _ _ _ _).trans (HF2.out o)⟩
            case measure => simp [intOf]; omega
    · go_wp2
      go_ret
      exact ⟨rfl, by (repeat' (first | (with_reducible exact Below.refl _ _) | (with_reducible assumption) | (with_reducible refine Below.alloc ?_ ?_ _) | (with_reducible refine Below.drew ?_) | (with_reducible refine below_dn ?_) | (with_reducible refine Below.setCell ?_ ?_ _) | (with_reducible exact Nat.le_refl _) | omega | (simp only [World.size_alloc, World.size_setCell, World.size_drew]; omega) | (simp; omega) | (simp; done)))⟩
end Go.Proofs.Ytnojnfmhinjcpaa
