import Derived.Test.YtigalbgailnicaaZ5
import Derived.Deep.Cut
import Derived.Deep.CutRange
import Derived.Deep.DeepCutAuto
import Derived.Deep.RegionWith
import Derived.StillTailTactics
namespace Go.Proofs.Ytigalbgailnicaa
set_option linter.unusedVariables false
set_option linter.unusedSimpArgs false
open Go.RowKit Go.Sort
/-- A slice of tries in memory, nil included. -/
def TriesA (W : World) (a : Option Addr) (ls : List (Int × Int)) : Prop :=
  ∀ k, k < ls.length → ∃ b off, a = some ⟨b, off, none⟩ ∧ W.cell? ⟨b, off + k * 3, none⟩ = some (.int .u8 (ls.getD k (0, 0)).1) ∧ W.cell? ⟨b, off + k * 3 + 1, none⟩ = some (.int .u8 (ls.getD k (0, 0)).2) ∧
    0 ≤ (ls.getD k (0, 0)).1 ∧ (ls.getD k (0, 0)).1 ≤ 255 ∧ 0 ≤ (ls.getD k (0, 0)).2 ∧ (ls.getD k (0, 0)).2 ≤ 255
theorem TriesA.mono {W W' : World} {a : Option Addr} {ls : List (Int × Int)} (h : TriesA W a ls) (hb : Below W.heap.size W W') : TriesA W' a ls := by
  intro k hk
  obtain ⟨b, off, e, h1, h2, h3⟩ := h k hk
  exact ⟨b, off, e, keep h1 hb, keep h2 hb, h3⟩
theorem infoI : (Try.prog.info? 3).map (fun i => (i.zero, i.size, i.bytes)) = some (some (.int .i64 0), 1, 8) := by kernel_rfl
set_option maxRecDepth 100000 in
set_option maxHeartbeats 2000000 in
theorem keeps_out (c n d l a : Int) (ad : Option Addr) (cap : Nat) (ls : List (Int × Int)) (w : World) (hm : ls.length ≤ 9223372036854775807) (h : 60 < ls.length ∨ ¬ OkB c n d l a ∨ 1099511527776 < a) :
    Calls Try.prog 5 #[bk c n d l a, .slice ad ls.length cap] w fun e w' => e = .returned (.bool true) ∧ Below w.heap.size w w' := by
  by_cases h1 : 60 < ls.length
  · go_enter Try.func5, Try.ntmps5
    go_wp2_with fail
    refine (sane' _).mono ?_
    rintro e w1 ⟨rfl, hb1⟩
    have B1 : Below w.heap.size w w1 := bt (by (repeat' (first | (with_reducible exact Below.refl _ _) | (with_reducible assumption) | (with_reducible refine Below.alloc ?_ ?_ _) | (with_reducible refine Below.drew ?_) | (with_reducible refine below_dn ?_) | (with_reducible refine Below.setCell ?_ ?_ _) | (with_reducible exact Nat.le_refl _) | omega | (simp only [World.size_alloc, World.size_setCell, World.size_drew]; omega) | (simp; omega) | (simp; done)))) hb1
    have s1 : w.heap.size ≤ w1.heap.size := B1.size
    clear hb1
    go_wp2
    go_ret
    exact ⟨rfl, by (repeat' (first | (with_reducible exact Below.refl _ _) | (with_reducible assumption) | (with_reducible refine Below.alloc ?_ ?_ _) | (with_reducible refine Below.drew ?_) | (with_reducible refine below_dn ?_) | (with_reducible refine Below.setCell ?_ ?_ _) | (with_reducible exact Nat.le_refl _) | omega | (simp only [World.size_alloc, World.size_setCell, World.size_drew]; omega) | (simp; omega) | (simp; done)))⟩
  have h1' : ls.length ≤ 60 := by omega
  by_cases h2 : OkB c n d l a
  · have h3 : 1099511527776 < a := h.resolve_left h1 |>.resolve_left (fun z => z h2)
    have HH := Lib.hid h2
    clear h h1 h2
    go_enter Try.func5, Try.ntmps5
    go_wp2_with fail
    refine (valid_yes _ _ _ _ _ _ HH.out).mono ?_
    rintro e w1 ⟨rfl, hb1⟩
    have B1 : Below w.heap.size w w1 := bt (by (repeat' (first | (with_reducible exact Below.refl _ _) | (with_reducible assumption) | (with_reducible refine Below.alloc ?_ ?_ _) | (with_reducible refine Below.drew ?_) | (with_reducible refine below_dn ?_) | (with_reducible refine Below.setCell ?_ ?_ _) | (with_reducible exact Nat.le_refl _) | omega | (simp only [World.size_alloc, World.size_setCell, World.size_drew]; omega) | (simp; omega) | (simp; done)))) hb1
    have s1 : w.heap.size ≤ w1.heap.size := B1.size
    have z1_b : w.heap.size < w1.heap.size := by (have := hb1.size; (try simp at this); omega)
    have x1_b : w.heap.size ≤ w1.heap.size := Nat.le_of_lt z1_b
    have d1_b_0 : w1.cell? ⟨w.heap.size, 0, none⟩ = some (.int .i64 c) := keep (by go_cell) hb1
    have d1_b_1 : w1.cell? ⟨w.heap.size, 1, none⟩ = some (.int .i64 n) := keep (by go_cell) hb1
    have d1_b_2 : w1.cell? ⟨w.heap.size, 2, none⟩ = some (.int .i64 d) := keep (by go_cell) hb1
    have d1_b_3 : w1.cell? ⟨w.heap.size, 3, none⟩ = some (.int .i64 l) := keep (by go_cell) hb1
    have d1_b_4 : w1.cell? ⟨w.heap.size, 4, none⟩ = some (.int .i64 a) := keep (by go_cell) hb1
    clear hb1
    go_wp2_with fail
    refine (sane' _).mono ?_
    rintro e w2 ⟨rfl, hb2⟩
    have B2 : Below w.heap.size w w2 := bt (by (repeat' (first | (with_reducible exact Below.refl _ _) | (with_reducible assumption) | (with_reducible refine Below.alloc ?_ ?_ _) | (with_reducible refine Below.drew ?_) | (with_reducible refine below_dn ?_) | (with_reducible refine Below.setCell ?_ ?_ _) | (with_reducible exact Nat.le_refl _) | omega | (simp only [World.size_alloc, World.size_setCell, World.size_drew]; omega) | (simp; omega) | (simp; done)))) hb2
    have s2 : w.heap.size ≤ w2.heap.size := B2.size
    have z2_b : w.heap.size < w2.heap.size := by (have := hb2.size; (try simp at this); omega)
    have x2_b : w.heap.size ≤ w2.heap.size := Nat.le_of_lt z2_b
    have d2_b_0 : w2.cell? ⟨w.heap.size, 0, none⟩ = some (.int .i64 c) := keep (by go_cell) hb2
    have d2_b_1 : w2.cell? ⟨w.heap.size, 1, none⟩ = some (.int .i64 n) := keep (by go_cell) hb2
    have d2_b_2 : w2.cell? ⟨w.heap.size, 2, none⟩ = some (.int .i64 d) := keep (by go_cell) hb2
    have d2_b_3 : w2.cell? ⟨w.heap.size, 3, none⟩ = some (.int .i64 l) := keep (by go_cell) hb2
    have d2_b_4 : w2.cell? ⟨w.heap.size, 4, none⟩ = some (.int .i64 a) := keep (by go_cell) hb2
    clear hb2 d1_b_0 d1_b_1 d1_b_2 d1_b_3 d1_b_4
    go_wp2
    go_ret
    exact ⟨rfl, by (repeat' (first | (with_reducible exact Below.refl _ _) | (with_reducible assumption) | (with_reducible refine Below.alloc ?_ ?_ _) | (with_reducible refine Below.drew ?_) | (with_reducible refine below_dn ?_) | (with_reducible refine Below.setCell ?_ ?_ _) | (with_reducible exact Nat.le_refl _) | omega | (simp only [World.size_alloc, World.size_setCell, World.size_drew]; omega) | (simp; omega) | (simp; done)))⟩
  · have HH := Lib.hid h2
    clear h h1 h2
    go_enter Try.func5, Try.ntmps5
    go_wp2_with fail
    refine (valid_no _ _ _ _ _ _ HH.out).mono ?_
    rintro e w1 ⟨rfl, hb1⟩
    have B1 : Below w.heap.size w w1 := bt (by (repeat' (first | (with_reducible exact Below.refl _ _) | (with_reducible assumption) | (with_reducible refine Below.alloc ?_ ?_ _) | (with_reducible refine Below.drew ?_) | (with_reducible refine below_dn ?_) | (with_reducible refine Below.setCell ?_ ?_ _) | (with_reducible exact Nat.le_refl _) | omega | (simp only [World.size_alloc, World.size_setCell, World.size_drew]; omega) | (simp; omega) | (simp; done)))) hb1
    have s1 : w.heap.size ≤ w1.heap.size := B1.size
    have z1_b : w.heap.size < w1.heap.size := by (have := hb1.size; (try simp at this); omega)
    have x1_b : w.heap.size ≤ w1.heap.size := Nat.le_of_lt z1_b
    have d1_b_0 : w1.cell? ⟨w.heap.size, 0, none⟩ = some (.int .i64 c) := keep (by go_cell) hb1
    have d1_b_1 : w1.cell? ⟨w.heap.size, 1, none⟩ = some (.int .i64 n) := keep (by go_cell) hb1
    have d1_b_2 : w1.cell? ⟨w.heap.size, 2, none⟩ = some (.int .i64 d) := keep (by go_cell) hb1
    have d1_b_3 : w1.cell? ⟨w.heap.size, 3, none⟩ = some (.int .i64 l) := keep (by go_cell) hb1
    have d1_b_4 : w1.cell? ⟨w.heap.size, 4, none⟩ = some (.int .i64 a) := keep (by go_cell) hb1
    clear hb1
    go_wp2_with fail
    refine (sane' _).mono ?_
    rintro e w2 ⟨rfl, hb2⟩
    have B2 : Below w.heap.size w w2 := bt (by (repeat' (first | (with_reducible exact Below.refl _ _) | (with_reducible assumption) | (with_reducible refine Below.alloc ?_ ?_ _) | (with_reducible refine Below.drew ?_) | (with_reducible refine below_dn ?_) | (with_reducible refine Below.setCell ?_ ?_ _) | (with_reducible exact Nat.le_refl _) | omega | (simp only [World.size_alloc, World.size_setCell, World.size_drew]; omega) | (simp; omega) | (simp; done)))) hb2
    have s2 : w.heap.size ≤ w2.heap.size := B2.size
    have z2_b : w.heap.size < w2.heap.size := by (have := hb2.size; (try simp at this); omega)
    have x2_b : w.heap.size ≤ w2.heap.size := Nat.le_of_lt z2_b
    have d2_b_0 : w2.cell? ⟨w.heap.size, 0, none⟩ = some (.int .i64 c) := keep (by go_cell) hb2
    have d2_b_1 : w2.cell? ⟨w.heap.size, 1, none⟩ = some (.int .i64 n) := keep (by go_cell) hb2
    have d2_b_2 : w2.cell? ⟨w.heap.size, 2, none⟩ = some (.int .i64 d) := keep (by go_cell) hb2
    have d2_b_3 : w2.cell? ⟨w.heap.size, 3, none⟩ = some (.int .i64 l) := keep (by go_cell) hb2
    have d2_b_4 : w2.cell? ⟨w.heap.size, 4, none⟩ = some (.int .i64 a) := keep (by go_cell) hb2
    clear hb2 d1_b_0 d1_b_1 d1_b_2 d1_b_3 d1_b_4
    go_wp2
    go_ret
    exact ⟨rfl, by (repeat' (first | (with_reducible exact Below.refl _ _) | (with_reducible assumption) | (with_reducible refine Below.alloc ?_ ?_ _) | (with_reducible refine Below.drew ?_) | (with_reducible refine below_dn ?_) | (with_reducible refine Below.setCell ?_ ?_ _) | (with_reducible exact Nat.le_refl _) | omega | (simp only [World.size_alloc, World.size_setCell, World.size_drew]; omega) | (simp; omega) | (simp; done)))⟩
set_option maxRecDepth 100000 in
set_option maxHeartbeats 1200000 in
theorem keeps_in (c n d l a : Int) (ad : Option Addr) (cap : Nat) (ls : List (Int × Int)) (w : World) (hp : TriesA w ad ls) (hm : ls.length ≤ 60) (h : OkB c n d l a) (ha : a ≤ 1099511527776) :
    Calls Try.prog 5 #[bk c n d l a, .slice ad ls.length cap] w fun e w' => e = .returned (.bool true) ∧ Below w.heap.size w w' := by
  obtain ⟨i0, hi, hz0, hz1, hz2⟩ := info_parts infoI
  have HP := Lib.hid hp; clear hp
  have HH := Lib.hid h
  have hr := Lib.hid (rate_start h)
  obtain ⟨g1, g2, g3, g4, g5', g6', g7, g8, g9, g10⟩ := h
  obtain ⟨p1, p2⟩ := HH.out.prod
  have g8b : l ≤ 1125899906842624 := by omega
  clear g8 p1 p2
  go_enter Try.func5, Try.ntmps5
  go_wp2_with fail
  refine (valid_yes _ _ _ _ _ _ HH.out).mono ?_
  rintro e w1 ⟨rfl, hb1⟩
  have B1 : Below w.heap.size w w1 := bt (by (repeat' (first | (with_reducible exact Below.refl _ _) | (with_reducible assumption) | (with_reducible refine Below.alloc ?_ ?_ _) | (with_reducible refine Below.drew ?_) | (with_reducible refine below_dn ?_) | (with_reducible refine Below.setCell ?_ ?_ _) | (with_reducible exact Nat.le_refl _) | omega | (simp only [World.size_alloc, World.size_setCell, World.size_drew]; omega) | (simp; omega) | (simp; done)))) hb1
  have s1 : w.heap.size ≤ w1.heap.size := B1.size
  have z1_b : w.heap.size < w1.heap.size := by (have := hb1.size; (try simp at this); omega)
  have x1_b : w.heap.size ≤ w1.heap.size := Nat.le_of_lt z1_b
  have d1_b_0 : w1.cell? ⟨w.heap.size, 0, none⟩ = some (.int .i64 c) := keep (by go_cell) hb1
  have d1_b_1 : w1.cell? ⟨w.heap.size, 1, none⟩ = some (.int .i64 n) := keep (by go_cell) hb1
  have d1_b_2 : w1.cell? ⟨w.heap.size, 2, none⟩ = some (.int .i64 d) := keep (by go_cell) hb1
  have d1_b_3 : w1.cell? ⟨w.heap.size, 3, none⟩ = some (.int .i64 l) := keep (by go_cell) hb1
  have d1_b_4 : w1.cell? ⟨w.heap.size, 4, none⟩ = some (.int .i64 a) := keep (by go_cell) hb1
  have f1_b : ∀ o, w1.frozen? ⟨w.heap.size, o, none⟩ = false := fun o => (hb1.frozen (p := ⟨w.heap.size, o, none⟩) (by (try simp); (try omega))).trans (by simp [go_sem, *])
  clear hb1
  go_wp2
  obtain ⟨S, hS⟩ : ∃ S, w1.heap.size = S := ⟨_, rfl⟩
  rw [hS]
  go_loopw [5, 6, 7, 9] (fun v5 v6 tt ii wr => ∃ (i : Nat) (t L A : Int) (T X : List Int), i ≤ ls.length ∧ ii = .int .i64 i ∧ tt = .int .i64 t ∧ T.length = i ∧ X.length = i ∧ a ≤ t ∧ t ≤ a + 255 * i ∧ Hid (Rate c n d l a T X t L A) ∧
      Hid (wr.ownsRow (S + 1) 3 1 v5 i (T.map (Value.int .i64))) ∧ Hid (wr.ownsRow (S + 1) 3 1 v6 i (X.map (Value.int .i64))) ∧ Hid (v5.ownBlock = none ∨ v5.ownBlock ≠ v6.ownBlock) ∧
      Below w.heap.size w wr ∧ S < wr.heap.size ∧ wr.cell? ⟨w.heap.size, 0, none⟩ = some (.int .i64 c) ∧ wr.cell? ⟨w.heap.size, 1, none⟩ = some (.int .i64 n) ∧ wr.cell? ⟨w.heap.size, 2, none⟩ = some (.int .i64 d) ∧ wr.cell? ⟨w.heap.size, 3, none⟩ = some (.int .i64 L) ∧ wr.cell? ⟨w.heap.size, 4, none⟩ = some (.int .i64 A) ∧
      Hid (∀ o, wr.frozen? ⟨w.heap.size, o, none⟩ = false) ∧
      wr.cell? ⟨S, 0, none⟩ = some (.int .i64 c) ∧ wr.cell? ⟨S, 1, none⟩ = some (.int .i64 n) ∧ wr.cell? ⟨S, 2, none⟩ = some (.int .i64 d) ∧ wr.cell? ⟨S, 3, none⟩ = some (.int .i64 l) ∧ wr.cell? ⟨S, 4, none⟩ = some (.int .i64 a)) (fun _ _ _ ii _ => ls.length - (intOf ii).toNat)
  case atStart =>
    subst hS
    exact ⟨0, a, l, a, [], [], by omega, rfl, rfl, rfl, rfl, by omega, by omega, hr, World.ownsRow_nil _ _ _ _, World.ownsRow_nil _ _ _ _, Or.inl rfl, by (repeat' (first | (with_reducible exact Below.refl _ _) | (with_reducible assumption) | (with_reducible refine Below.alloc ?_ ?_ _) | (with_reducible refine Below.drew ?_) | (with_reducible refine below_dn ?_) | (with_reducible refine Below.setCell ?_ ?_ _) | (with_reducible exact Nat.le_refl _) | omega | (simp only [World.size_alloc, World.size_setCell, World.size_drew]; omega) | (simp; omega) | (simp; done))), by simp, by rw [World.cell?_alloc_past _ _ _ z1_b]; exact d1_b_0, by rw [World.cell?_alloc_past _ _ _ z1_b]; exact d1_b_1, by rw [World.cell?_alloc_past _ _ _ z1_b]; exact d1_b_2, by rw [World.cell?_alloc_past _ _ _ z1_b]; exact d1_b_3, by rw [World.cell?_alloc_past _ _ _ z1_b]; exact d1_b_4,
      fun o => (frozen?_alloc_cells _ _ _ _).trans (f1_b o), by simp [go_sem], by simp [go_sem], by simp [go_sem], by simp [go_sem], by simp [go_sem]⟩
  case round =>
    have zS : w.heap.size < S := by omega
    clear hS
    obtain ⟨i, t, L, A, T, X, hi', rfl, rfl, hT, hX, ht0, ht1, hR, ow5, ow6, hne, hB, hSz, c0, c1, c2, c3, c4, hf, s0, s1', s2, s3, s4⟩ := hrel
    clear d1_b_0 d1_b_1 d1_b_2 d1_b_3 d1_b_4 f1_b z1_b x1_b B1 s1 hr
    by_cases hlt : i < ls.length
    · obtain ⟨b, off, rfl, q1, q2, u1, u2, v1, v2⟩ := HP.out i hlt
      obtain ⟨u, hu⟩ : ∃ u, (ls.getD i (0, 0)).1 = u := ⟨_, rfl⟩
      obtain ⟨v, hv⟩ : ∃ v, (ls.getD i (0, 0)).2 = v := ⟨_, rfl⟩
      rw [hu] at q1 u1 u2
      rw [hv] at q2 v1 v2
      have e1 := keep q1 hB; have e2 := keep q2 hB
      clear q1 q2 hu hv
      have zb := block_lt_of_cell e1
      simp only at zb
      have okA := Lib.hid hR.out.1
      have at1 : A ≤ t := hR.out.2.2.1
      have c5 := fun W : World => take_some c n d L A (t + u) v W okA.out v1 v2 (by omega) (by omega)
      have C5 := Lib.hid c5
      clear c5
      go_upto_region 12 with (fail)
      have zw : w.heap.size < wr.heap.size := by omega
      have wv : IntKind.i64.wrap v = v := by rw [IntKind.wrap_i64]; omega
      go_cut [11, 12] from 48 to 59 (fun s11 s12 wx => ∃ (g : Nat) (c2 n2 d2 l2 a2 er : Int), s11 = .pointer (some ⟨g, 0, none⟩) ∧ s12 = .int .i64 er ∧ wr.heap.size ≤ g ∧ g < wx.heap.size ∧ Below wr.heap.size wr wx ∧
        Hid (er = 0 ∧ c2 = c ∧ n2 = n ∧ d2 = d ∧ l2 = lvl c n d L A (t + u) - v * d ∧ a2 = t + u ∧ 1 ≤ v ∧ v * d ≤ lvl c n d L A (t + u) ∨ er ≠ 0) ∧
        wx.cell? ⟨g, 0, none⟩ = some (.int .i64 c2) ∧ wx.cell? ⟨g, 1, none⟩ = some (.int .i64 n2) ∧ wx.cell? ⟨g, 2, none⟩ = some (.int .i64 d2) ∧ wx.cell? ⟨g, 3, none⟩ = some (.int .i64 l2) ∧ wx.cell? ⟨g, 4, none⟩ = some (.int .i64 a2))
      case first =>
        go_region_with (go_at_call 11; ((with_reducible refine (C5.out _).mono ?_); rintro e w2 ⟨c2', n2', d2', l2', a2', er, rfl, hor, hb2⟩; have OR := Lib.hid hor; clear hor; have BB : Below wr.heap.size wr w2 := bt (by (repeat' (first | (with_reducible exact Below.refl _ _) | (with_reducible assumption) | (with_reducible refine Below.alloc ?_ ?_ _) | (with_reducible refine Below.drew ?_) | (with_reducible refine below_dn ?_) | (with_reducible refine Below.setCell ?_ ?_ _) | (with_reducible exact Nat.le_refl _) | omega | (simp only [World.size_alloc, World.size_setCell, World.size_drew]; omega) | (simp; omega) | (simp; done)))) hb2; have zq : wr.heap.size ≤ w2.heap.size := BB.size; (try (refine (have zz : wr.heap.size < w2.heap.size := ?hz; ?_); (case hz => (have hsz := hb2.size; simp at hsz; omega)))); have kb := fun (b o : Nat) (v : Value) h => keep (b := b) (o := o) (v := v) h hb2; have KB := Lib.hid kb; clear kb; (try (refine (have kf : ∀ o, w2.frozen? ⟨wr.heap.size, o, none⟩ = false := ?hkf; ?_); (case hkf => (intro o; rw [hb2.frozen (p := ⟨wr.heap.size, o, none⟩) ?hq]; (case hq => (simp; done)); (simp [go_sem]; done))))); (try (refine (have ka0 : w2.cell? ⟨wr.heap.size, 0, none⟩ = some (.int .i64 0) := ?hk0; ?_); (case hk0 => (refine KB.out _ _ _ ?_; (simp [go_sem]; done))))); (try (refine (have ka1 : w2.cell? ⟨wr.heap.size, 1, none⟩ = some (.int .i64 0) := ?hk1; ?_); (case hk1 => (refine KB.out _ _ _ ?_; (simp [go_sem]; done))))); (try (refine (have ka2 : w2.cell? ⟨wr.heap.size, 2, none⟩ = some (.int .i64 0) := ?hk2; ?_); (case hk2 => (refine KB.out _ _ _ ?_; (simp [go_sem]; done))))); (try (refine (have ka3 : w2.cell? ⟨wr.heap.size, 3, none⟩ = some (.int .i64 0) := ?hk3; ?_); (case hk3 => (refine KB.out _ _ _ ?_; (simp [go_sem]; done))))); (try (refine (have ka4 : w2.cell? ⟨wr.heap.size, 4, none⟩ = some (.int .i64 0) := ?hk4; ?_); (case hk4 => (refine KB.out _ _ _ ?_; (simp [go_sem]; done)))))))
        all_goals
          go_wp2_with fail
          go_meet
          first
          | exact ⟨w2.heap.size, _, _, _, _, _, _, rfl, rfl, by omega, by first | (simp; done) | (simp; omega) | omega, by (repeat' (first | (with_reducible exact Below.refl _ _) | (with_reducible assumption) | (with_reducible refine Below.alloc ?_ ?_ _) | (with_reducible refine Below.drew ?_) | (with_reducible refine below_dn ?_) | (with_reducible refine Below.setCell ?_ ?_ _) | (with_reducible exact Nat.le_refl _) | omega | (simp only [World.size_alloc, World.size_setCell, World.size_drew]; omega) | (simp; omega) | (simp; done))), OR.out, (by first | (simp [go_sem]; done) | (go_cell; done) | (simp [*, go_sem]; done)), (by first | (simp [go_sem]; done) | (go_cell; done) | (simp [*, go_sem]; done)), (by first | (simp [go_sem]; done) | (go_cell; done) | (simp [*, go_sem]; done)), (by first | (simp [go_sem]; done) | (go_cell; done) | (simp [*, go_sem]; done)), (by first | (simp [go_sem]; done) | (go_cell; done) | (simp [*, go_sem]; done))⟩
          | exact ⟨wr.heap.size, _, _, _, _, _, _, rfl, rfl, by omega, by first | (simp; done) | (simp; omega) | omega, by (repeat' (first | (with_reducible exact Below.refl _ _) | (with_reducible assumption) | (with_reducible refine Below.alloc ?_ ?_ _) | (with_reducible refine Below.drew ?_) | (with_reducible refine below_dn ?_) | (with_reducible refine Below.setCell ?_ ?_ _) | (with_reducible exact Nat.le_refl _) | omega | (simp only [World.size_alloc, World.size_setCell, World.size_drew]; omega) | (simp; omega) | (simp; done))), OR.out, (by first | (simp [go_sem]; done) | (go_cell; done) | (simp [*, go_sem]; done)), (by first | (simp [go_sem]; done) | (go_cell; done) | (simp [*, go_sem]; done)), (by first | (simp [go_sem]; done) | (go_cell; done) | (simp [*, go_sem]; done)), (by first | (simp [go_sem]; done) | (go_cell; done) | (simp [*, go_sem]; done)), (by first | (simp [go_sem]; done) | (go_cell; done) | (simp [*, go_sem]; done))⟩
      case rest =>
        obtain ⟨g, c2', n2', d2', l2', a2', er, rfl, rfl, hg, hgx, hbx, hor, h0, h1, h2, h3, h4⟩ := hcut
        have zc : w.heap.size < wc.heap.size := Nat.lt_of_lt_of_le zw hbx.size
        have zSc : S < wc.heap.size := Nat.lt_of_lt_of_le hSz hbx.size
        have Bc : Below w.heap.size w wc := bt hB hbx
        have d0 : wc.cell? ⟨w.heap.size, 0, none⟩ = some (.int .i64 (c)) := keep c0 hbx
        have d1 : wc.cell? ⟨w.heap.size, 1, none⟩ = some (.int .i64 (n)) := keep c1 hbx
        have d2 : wc.cell? ⟨w.heap.size, 2, none⟩ = some (.int .i64 (d)) := keep c2 hbx
        have d3 : wc.cell? ⟨w.heap.size, 3, none⟩ = some (.int .i64 (L)) := keep c3 hbx
        have d4 : wc.cell? ⟨w.heap.size, 4, none⟩ = some (.int .i64 (A)) := keep c4 hbx
        have q0 : wc.cell? ⟨S, 0, none⟩ = some (.int .i64 (c)) := keep s0 hbx
        have q1 : wc.cell? ⟨S, 1, none⟩ = some (.int .i64 (n)) := keep s1' hbx
        have q2 : wc.cell? ⟨S, 2, none⟩ = some (.int .i64 (d)) := keep s2 hbx
        have q3 : wc.cell? ⟨S, 3, none⟩ = some (.int .i64 (l)) := keep s3 hbx
        have q4 : wc.cell? ⟨S, 4, none⟩ = some (.int .i64 (a)) := keep s4 hbx
        have hfc : ∀ o, wc.frozen? ⟨w.heap.size, o, none⟩ = false := fun o => (hbx.frozen (p := ⟨w.heap.size, o, none⟩) (by simpa using zw)).trans (hf.out o)
        have O5c := own_below ow5.out hbx
        have O6c := own_below ow6.out hbx
        have NE := hne
        have e2c := keep e2 hbx
        clear c0 c1 c2 c3 c4 s0 s1' s2 s3 s4 hf ow5 ow6 hB hSz hne hbx e1 e2 zb C5 wv
        have OR2 := hor
        clear hor
        rcases OR2.out with ⟨r0, r1, r2, r3, r4, r5, v1', hk⟩ | hne'
        · subst er
          subst c2' n2' d2' l2' a2'
          have RT := Lib.hid (rate_take hR.out (t + u) v (by omega) (by omega) v1' v2 hk)
          obtain ⟨LV, hLV⟩ : ∃ LV, lvl c n d L A (t + u) - v * d = LV := ⟨_, rfl⟩
          rw [hLV] at h3
          have RT0 := RT.out
          rw [hLV] at RT0
          clear RT
          have RT := Lib.hid RT0
          clear RT0 hLV hk OR2 hR
          have O5 := Lib.hid O5c
          have O6 := Lib.hid O6c
          clear O5c O6c
          go_upto_region 16 with (fail)
          obtain ⟨w4, hw4⟩ : ∃ W, ((((wc.setCell ⟨w.heap.size, 0, none⟩ (.int .i64 c)).setCell ⟨w.heap.size, 1, none⟩ (.int .i64 n)).setCell ⟨w.heap.size, 2, none⟩ (.int .i64 d)).setCell ⟨w.heap.size, 3, none⟩ (.int .i64 LV)).setCell ⟨w.heap.size, 4, none⟩ (.int .i64 (t + u)) = W := ⟨_, rfl⟩
          rw [hw4]
          have z4 : wc.heap.size = w4.heap.size := by rw [← hw4]; simp
          have B4 : Below w.heap.size w w4 := by rw [← hw4]; (repeat' (first | (with_reducible exact Below.refl _ _) | (with_reducible assumption) | (with_reducible refine Below.alloc ?_ ?_ _) | (with_reducible refine Below.drew ?_) | (with_reducible refine below_dn ?_) | (with_reducible refine Below.setCell ?_ ?_ _) | (with_reducible exact Nat.le_refl _) | omega | (simp only [World.size_alloc, World.size_setCell, World.size_drew]; omega) | (simp; omega) | (simp; done)))
          have p0 : w4.cell? ⟨w.heap.size, 0, none⟩ = some (.int .i64 (c)) := by rw [← hw4]; go_cell
          have p1 : w4.cell? ⟨w.heap.size, 1, none⟩ = some (.int .i64 (n)) := by rw [← hw4]; go_cell
          have p2 : w4.cell? ⟨w.heap.size, 2, none⟩ = some (.int .i64 (d)) := by rw [← hw4]; go_cell
          have p3 : w4.cell? ⟨w.heap.size, 3, none⟩ = some (.int .i64 (LV)) := by rw [← hw4]; go_cell
          have p4 : w4.cell? ⟨w.heap.size, 4, none⟩ = some (.int .i64 (t + u)) := by rw [← hw4]; go_cell
          have q0 : w4.cell? ⟨S, 0, none⟩ = some (.int .i64 (c)) := by rw [← hw4]; rw [World.cell?_setCell_other _ _ _ _ (by first | (simp; done) | (simp; omega)), World.cell?_setCell_other _ _ _ _ (by first | (simp; done) | (simp; omega)), World.cell?_setCell_other _ _ _ _ (by first | (simp; done) | (simp; omega)), World.cell?_setCell_other _ _ _ _ (by first | (simp; done) | (simp; omega)), World.cell?_setCell_other _ _ _ _ (by first | (simp; done) | (simp; omega))]; exact q0
          have q1 : w4.cell? ⟨S, 1, none⟩ = some (.int .i64 (n)) := by rw [← hw4]; rw [World.cell?_setCell_other _ _ _ _ (by first | (simp; done) | (simp; omega)), World.cell?_setCell_other _ _ _ _ (by first | (simp; done) | (simp; omega)), World.cell?_setCell_other _ _ _ _ (by first | (simp; done) | (simp; omega)), World.cell?_setCell_other _ _ _ _ (by first | (simp; done) | (simp; omega)), World.cell?_setCell_other _ _ _ _ (by first | (simp; done) | (simp; omega))]; exact q1
          have q2 : w4.cell? ⟨S, 2, none⟩ = some (.int .i64 (d)) := by rw [← hw4]; rw [World.cell?_setCell_other _ _ _ _ (by first | (simp; done) | (simp; omega)), World.cell?_setCell_other _ _ _ _ (by first | (simp; done) | (simp; omega)), World.cell?_setCell_other _ _ _ _ (by first | (simp; done) | (simp; omega)), World.cell?_setCell_other _ _ _ _ (by first | (simp; done) | (simp; omega)), World.cell?_setCell_other _ _ _ _ (by first | (simp; done) | (simp; omega))]; exact q2
          have q3 : w4.cell? ⟨S, 3, none⟩ = some (.int .i64 (l)) := by rw [← hw4]; rw [World.cell?_setCell_other _ _ _ _ (by first | (simp; done) | (simp; omega)), World.cell?_setCell_other _ _ _ _ (by first | (simp; done) | (simp; omega)), World.cell?_setCell_other _ _ _ _ (by first | (simp; done) | (simp; omega)), World.cell?_setCell_other _ _ _ _ (by first | (simp; done) | (simp; omega)), World.cell?_setCell_other _ _ _ _ (by first | (simp; done) | (simp; omega))]; exact q3
          have q4 : w4.cell? ⟨S, 4, none⟩ = some (.int .i64 (a)) := by rw [← hw4]; rw [World.cell?_setCell_other _ _ _ _ (by first | (simp; done) | (simp; omega)), World.cell?_setCell_other _ _ _ _ (by first | (simp; done) | (simp; omega)), World.cell?_setCell_other _ _ _ _ (by first | (simp; done) | (simp; omega)), World.cell?_setCell_other _ _ _ _ (by first | (simp; done) | (simp; omega)), World.cell?_setCell_other _ _ _ _ (by first | (simp; done) | (simp; omega))]; exact q4
          have O5a := O5.out
          have O6a := O6.out
          have O5b : w4.ownsRow (S + 1) 3 1 u5 i (T.map (Value.int .i64)) := by rw [← hw4]; exact own_store (own_store (own_store (own_store (own_store O5a (by omega)) (by omega)) (by omega)) (by omega)) (by omega)
          have O6b : w4.ownsRow (S + 1) 3 1 u6 i (X.map (Value.int .i64)) := by rw [← hw4]; exact own_store (own_store (own_store (own_store (own_store O6a (by omega)) (by omega)) (by omega)) (by omega)) (by omega)
          have FP := Lib.hid (show ∀ o, w4.frozen? ⟨w.heap.size, o, none⟩ = false from fun o => by rw [← hw4]; (repeat rw [World.frozen?_setCell]); exact hfc o)
          clear O5 O6 O5a O6a
          have O5 := Lib.hid O5b
          have O6 := Lib.hid O6b
          clear hw4 hfc d0 d1 d2 d3 d4 h0 h1 h2 h3 h4 Bc O5b O6b
          go_wp2_with (at_builtin; refine wpList_append_own_at _ rfl _ _ 45 rfl (S + 1) 3 i0 (.int .i64 0) 1 8 Try.underlying45 hi hz0 hz1 hz2 rfl (by decide) _ i (T.map (Value.int .i64)) rfl (own_alloc O5.out _) ⟨w4.heap.size, 0, none⟩ 1 1 [.int .i64 (t + u)] rfl rfl ?news1 ?one1 ?hlim1 ?hby1 ?hba1 ?_)
          case news1 =>
            intro j u hj
            match j, hj with
            | 0, hj => simp at hj; subst hj; simp [Addr.add]
          case one1 => intro u hu; simp at hu; subst hu; rfl
          case hlim1 => unfold maxLen; omega
          case hby1 => omega
          case hba1 => simp; omega
          intro v5' w5 own5 gr5 _ blk5
          have r5 : ∀ k, Value.ownBlock u5 = some k → S + 1 ≤ k := fun k hk => (own_lt O5.out k hk).1
          have zp : w4.heap.size < w5.heap.size := by have := gr5.size; simp at this; omega
          have m0 : w5.cell? ⟨w.heap.size, 0, none⟩ = some (.int .i64 (c)) := grown_cell gr5 r5 (by omega) (by rw [World.cell?_alloc_past _ _ _ (by omega)]; exact p0)
          have m1 : w5.cell? ⟨w.heap.size, 1, none⟩ = some (.int .i64 (n)) := grown_cell gr5 r5 (by omega) (by rw [World.cell?_alloc_past _ _ _ (by omega)]; exact p1)
          have m2 : w5.cell? ⟨w.heap.size, 2, none⟩ = some (.int .i64 (d)) := grown_cell gr5 r5 (by omega) (by rw [World.cell?_alloc_past _ _ _ (by omega)]; exact p2)
          have m3 : w5.cell? ⟨w.heap.size, 3, none⟩ = some (.int .i64 (LV)) := grown_cell gr5 r5 (by omega) (by rw [World.cell?_alloc_past _ _ _ (by omega)]; exact p3)
          have m4 : w5.cell? ⟨w.heap.size, 4, none⟩ = some (.int .i64 (t + u)) := grown_cell gr5 r5 (by omega) (by rw [World.cell?_alloc_past _ _ _ (by omega)]; exact p4)
          have k0 : w5.cell? ⟨S, 0, none⟩ = some (.int .i64 (c)) := grown_cell gr5 r5 (by omega) (by rw [World.cell?_alloc_past _ _ _ (by omega)]; exact q0)
          have k1 : w5.cell? ⟨S, 1, none⟩ = some (.int .i64 (n)) := grown_cell gr5 r5 (by omega) (by rw [World.cell?_alloc_past _ _ _ (by omega)]; exact q1)
          have k2 : w5.cell? ⟨S, 2, none⟩ = some (.int .i64 (d)) := grown_cell gr5 r5 (by omega) (by rw [World.cell?_alloc_past _ _ _ (by omega)]; exact q2)
          have k3 : w5.cell? ⟨S, 3, none⟩ = some (.int .i64 (l)) := grown_cell gr5 r5 (by omega) (by rw [World.cell?_alloc_past _ _ _ (by omega)]; exact q3)
          have k4 : w5.cell? ⟨S, 4, none⟩ = some (.int .i64 (a)) := grown_cell gr5 r5 (by omega) (by rw [World.cell?_alloc_past _ _ _ (by omega)]; exact q4)
          have f5 : ∀ o, w5.frozen? ⟨w.heap.size, o, none⟩ = false := fun o => (grown_frozen gr5 r5 (by omega) (by simp; omega)).trans ((frozen?_alloc_cells _ _ _ _).trans (FP.out o))
          have B5 : Below w.heap.size w w5 := grown_below (by (repeat' (first | (with_reducible exact Below.refl _ _) | (with_reducible assumption) | (with_reducible refine Below.alloc ?_ ?_ _) | (with_reducible refine Below.drew ?_) | (with_reducible refine below_dn ?_) | (with_reducible refine Below.setCell ?_ ?_ _) | (with_reducible exact Nat.le_refl _) | omega | (simp only [World.size_alloc, World.size_setCell, World.size_drew]; omega) | (simp; omega) | (simp; done)))) gr5 (fun k hk => by have := r5 k hk; omega) (by simp; omega)
          have own6 : w5.ownsRow (S + 1) 3 1 u6 i (X.map (Value.int .i64)) := (own_alloc O6.out _).kept gr5 (by
            rcases NE.out with h | h
            · rw [h]
              by_cases z : Value.ownBlock u6 = none
              · exact Or.inl z
              · exact Or.inr z
            · exact Or.inr (Ne.symm h))
          have lt6 := own_lt O6.out
          have lt5 := own_lt own5
          have NE5 : Hid (∀ g6, Value.ownBlock u6 = some g6 → v5'.ownBlock ≠ some g6) := fun g6 h6 e5 => by
            rcases blk5 with h | h
            · rw [h] at e5
              rcases NE.out with z | z
              · rw [z] at e5; cases e5
              · exact z (e5.trans h6.symm)
            · rw [h] at e5
              have := (lt6 g6 h6).2
              simp at e5
              omega
          have O5' := Lib.hid own5
          have O6' := Lib.hid own6
          have F5 := Lib.hid f5
          have L5 := Lib.hid lt5
          clear gr5 r5 f5 own5 own6 lt6 lt5 blk5 p0 p1 p2 p3 p4 q0 q1 q2 q3 q4
          go_wp2_with (at_builtin; refine wpList_append_own_at _ rfl _ _ 45 rfl (S + 1) 3 i0 (.int .i64 0) 1 8 Try.underlying45 hi hz0 hz1 hz2 rfl (by decide) _ i (X.map (Value.int .i64)) rfl (own_alloc O6'.out _) ⟨w5.heap.size, 0, none⟩ 1 1 [.int .i64 (v)] rfl rfl ?news2 ?one2 ?hlim2 ?hby2 ?hba2 ?_)
          case news2 =>
            intro j u hj
            match j, hj with
            | 0, hj => simp at hj; subst hj; simp [Addr.add]
          case one2 => intro u hu; simp at hu; subst hu; rfl
          case hlim2 => unfold maxLen; omega
          case hby2 => omega
          case hba2 => simp; omega
          intro v6' w6 own6 gr6 _ blk6
          have r6 : ∀ k, Value.ownBlock u6 = some k → S + 1 ≤ k := fun k hk => (own_lt O6'.out k hk).1
          have zp6 : w5.heap.size < w6.heap.size := by have := gr6.size; simp at this; omega
          have p0 : w6.cell? ⟨w.heap.size, 0, none⟩ = some (.int .i64 (c)) := grown_cell gr6 r6 (by omega) (by rw [World.cell?_alloc_past _ _ _ (by omega)]; exact m0)
          have p1 : w6.cell? ⟨w.heap.size, 1, none⟩ = some (.int .i64 (n)) := grown_cell gr6 r6 (by omega) (by rw [World.cell?_alloc_past _ _ _ (by omega)]; exact m1)
          have p2 : w6.cell? ⟨w.heap.size, 2, none⟩ = some (.int .i64 (d)) := grown_cell gr6 r6 (by omega) (by rw [World.cell?_alloc_past _ _ _ (by omega)]; exact m2)
          have p3 : w6.cell? ⟨w.heap.size, 3, none⟩ = some (.int .i64 (LV)) := grown_cell gr6 r6 (by omega) (by rw [World.cell?_alloc_past _ _ _ (by omega)]; exact m3)
          have p4 : w6.cell? ⟨w.heap.size, 4, none⟩ = some (.int .i64 (t + u)) := grown_cell gr6 r6 (by omega) (by rw [World.cell?_alloc_past _ _ _ (by omega)]; exact m4)
          have q0 : w6.cell? ⟨S, 0, none⟩ = some (.int .i64 (c)) := grown_cell gr6 r6 (by omega) (by rw [World.cell?_alloc_past _ _ _ (by omega)]; exact k0)
          have q1 : w6.cell? ⟨S, 1, none⟩ = some (.int .i64 (n)) := grown_cell gr6 r6 (by omega) (by rw [World.cell?_alloc_past _ _ _ (by omega)]; exact k1)
          have q2 : w6.cell? ⟨S, 2, none⟩ = some (.int .i64 (d)) := grown_cell gr6 r6 (by omega) (by rw [World.cell?_alloc_past _ _ _ (by omega)]; exact k2)
          have q3 : w6.cell? ⟨S, 3, none⟩ = some (.int .i64 (l)) := grown_cell gr6 r6 (by omega) (by rw [World.cell?_alloc_past _ _ _ (by omega)]; exact k3)
          have q4 : w6.cell? ⟨S, 4, none⟩ = some (.int .i64 (a)) := grown_cell gr6 r6 (by omega) (by rw [World.cell?_alloc_past _ _ _ (by omega)]; exact k4)
          have f6 : ∀ o, w6.frozen? ⟨w.heap.size, o, none⟩ = false := fun o => (grown_frozen gr6 r6 (by omega) (by simp; omega)).trans ((frozen?_alloc_cells _ _ _ _).trans (F5.out o))
          have B6 : Below w.heap.size w w6 := grown_below (by (repeat' (first | (with_reducible exact Below.refl _ _) | (with_reducible assumption) | (with_reducible refine Below.alloc ?_ ?_ _) | (with_reducible refine Below.drew ?_) | (with_reducible refine below_dn ?_) | (with_reducible refine Below.setCell ?_ ?_ _) | (with_reducible exact Nat.le_refl _) | omega | (simp only [World.size_alloc, World.size_setCell, World.size_drew]; omega) | (simp; omega) | (simp; done)))) gr6 (fun k hk => by have := r6 k hk; omega) (by simp; omega)
          have own5 : w6.ownsRow (S + 1) 3 1 v5' (i + 1) ((T.map (Value.int .i64)) ++ [.int .i64 (t + u)]) := (own_alloc O5'.out _).kept gr6 (by
            cases h6 : Value.ownBlock u6 with
            | none =>
              by_cases z : v5'.ownBlock = none
              · exact Or.inl z
              · exact Or.inr z
            | some g6 => exact Or.inr (NE5.out g6 h6))
          have NE6 : Hid (v5'.ownBlock = none ∨ v5'.ownBlock ≠ v6'.ownBlock) := by
            cases h5 : v5'.ownBlock with
            | none => exact Or.inl rfl
            | some g5 =>
              refine Or.inr fun e => ?_
              rcases blk6 with h | h
              · exact NE5.out g5 (h.symm.trans e.symm) h5
              · rw [h] at e
                have := (L5.out g5 h5).2
                simp at e
                omega
          rw [show (T.map (Value.int .i64)) ++ [Value.int .i64 (t + u)] = (T ++ [t + u]).map (Value.int .i64) by simp] at own5
          rw [show (X.map (Value.int .i64)) ++ [Value.int .i64 (v)] = (X ++ [v]).map (Value.int .i64) by simp] at own6
          obtain ⟨g5, cap5, rfl, gb5, gl5, gc5⟩ := own_cell own5 (by omega)
          obtain ⟨g6, cap6, rfl, gb6, gl6, gc6⟩ := own_cell own6 (by omega)
          have N5 := Lib.hid own5
          have N6 := Lib.hid own6
          have F6 := Lib.hid f6
          have G5 := Lib.hid gc5
          have G6 := Lib.hid gc6
          clear gr6 r6 f6 own5 own6 gc5 gc6 blk6 O5 O6 O5' O6' NE NE5 L5 F5 m0 m1 m2 m3 m4 k0 k1 k2 k3 k4 FP
          obtain ⟨Y, hY⟩ : ∃ Y, X ++ [v] = Y := ⟨_, rfl⟩
          obtain ⟨Q, hQ⟩ : ∃ Q, T ++ [t + u] = Q := ⟨_, rfl⟩
          rw [hY] at N6 G6
          rw [hQ] at N5 G5
          have RT1 := RT.out
          rw [hY, hQ] at RT1
          have RQ := Lib.hid RT1
          have lY : Y.length = i + 1 := by rw [← hY]; simp [hX]
          have lQ : Q.length = i + 1 := by rw [← hQ]; simp [hT]
          have TB := Lib.hid (tot_bd Y (fun k hk => ⟨(RT1.2.2.2.2.1 k hk).1, (RT1.2.2.2.2.1 k hk).2.1⟩))
          have HYL := Lib.hid lY
          have HQL := Lib.hid lQ
          have OKL := Lib.hid RT1.1
          clear hY hQ lY lQ RT RT1
          go_wp2
          go_loopw [13, 14] (fun ss kk wr2 => ∃ (m q : Nat) (s : Int), m ≤ i + 1 ∧ kk = .int .i64 ((m : Int) - 1) ∧ ss = .int .i64 s ∧ Hid (s = tot (Y.drop m)) ∧ 0 ≤ s ∧ s ≤ 15300 ∧ wr2 = w6.drewN q) (fun _ kk _ => (intOf kk + 1).toNat)
          case atStart =>
            refine ⟨i + 1, 0, 0, by omega, ?_, rfl, ?_, by omega, by omega, rfl⟩
            · congr 1; omega
            · show _ = _
              rw [← HYL.out, List.drop_length]; rfl
          case round =>
            obtain ⟨m, q, s, hm, rfl, rfl, hs, s0, s1, rfl⟩ := hrel
            have Bq : Below w6.heap.size w6 (w6.drewN q) := below_dn (Below.refl _ _)
            cases m with
            | zero =>
              rw [show ((0 : Nat) : Int) - 1 = -1 by omega]
              have OKB0 := HH.out
              have tot1 : s ≤ (lvl c n d l a a + n * (t + u + 1 - 1 - a)) / d := by
                have e : lvl c n d l a a = l := by
                  have := OKB0.2.2.2.2.2.2.2.1
                  unfold lvl
                  rw [Int.sub_self, Int.mul_zero]
                  omega
                rw [e, hs.out]
                exact rate_total RQ.out
              have cm := fun W : World => most_ok c n d l a a (t + u + 1) W OKB0 (Int.le_refl _) (by omega) (by omega) (by omega)
              obtain ⟨M, hM⟩ : ∃ M, (lvl c n d l a a + n * (t + u + 1 - 1 - a)) / d = M := ⟨_, rfl⟩
              rw [hM] at cm tot1
              have CM := Lib.hid cm
              clear cm hM OKB0
              obtain ⟨w9, hw9⟩ : ∃ W, w6.drewN q = W := ⟨_, rfl⟩
              rw [hw9] at Bq ⊢
              clear hw9
              have B9 : Below w.heap.size w w9 := bt B6 Bq
              have x0 : w9.cell? ⟨w.heap.size, 0, none⟩ = some (.int .i64 (c)) := keep p0 Bq
              have x1 : w9.cell? ⟨w.heap.size, 1, none⟩ = some (.int .i64 (n)) := keep p1 Bq
              have x2 : w9.cell? ⟨w.heap.size, 2, none⟩ = some (.int .i64 (d)) := keep p2 Bq
              have x3 : w9.cell? ⟨w.heap.size, 3, none⟩ = some (.int .i64 (LV)) := keep p3 Bq
              have x4 : w9.cell? ⟨w.heap.size, 4, none⟩ = some (.int .i64 (t + u)) := keep p4 Bq
              have y0 : w9.cell? ⟨S, 0, none⟩ = some (.int .i64 (c)) := keep q0 Bq
              have y1 : w9.cell? ⟨S, 1, none⟩ = some (.int .i64 (n)) := keep q1 Bq
              have y2 : w9.cell? ⟨S, 2, none⟩ = some (.int .i64 (d)) := keep q2 Bq
              have y3 : w9.cell? ⟨S, 3, none⟩ = some (.int .i64 (l)) := keep q3 Bq
              have y4 : w9.cell? ⟨S, 4, none⟩ = some (.int .i64 (a)) := keep q4 Bq
              have z9 := Bq.size
              go_wp2_with fail
              refine (CM.out _).mono ?_
              rintro e w10 ⟨rfl, hb10⟩
              have B10 : Below w9.heap.size w9 w10 := hb10
              have z10 := hb10.size
              go_wp2
              go_roundw
              case rel =>
                exact ⟨i + 1, t + u, LV, t + u, Q, Y, by omega, by go_num, rfl, HQL.out, HYL.out, by omega, by omega, RQ.out, own_below (own_below N5.out Bq) B10, own_below (own_below N6.out Bq) B10, NE6.out, bt B9 B10, by omega,
                  keep x0 B10, keep x1 B10, keep x2 B10, keep x3 B10, keep x4 B10, fun o => (B10.frozen (p := ⟨w.heap.size, o, none⟩) (by show w.heap.size < _; omega)).trans ((Bq.frozen (p := ⟨w.heap.size, o, none⟩) (by show w.heap.size < _; omega)).trans (F6.out o)), keep y0 B10, keep y1 B10, keep y2 B10, keep y3 B10, keep y4 B10⟩
              case measure => simp [intOf]; omega
            | succ j =>
              rw [show ((j + 1 : Nat) : Int) - 1 = (j : Int) by omega]
              have kY := keep (G6.out j (by omega)) Bq
              have kQ := keep (G5.out j (by omega)) Bq
              have kQ0 := G5.out j (by omega)
              have fq := RQ.out.2.2.2.2.1 j (by have := HYL.out; omega)
              have ri := rate_inner RQ.out j (by have := HYL.out; omega)
              have td := tot_drop Y j (by have := HYL.out; omega)
              have tb := TB.out j (by have := HYL.out; omega)
              rw [← hs.out] at td
              rw [td] at ri tb
              obtain ⟨y, hy⟩ : ∃ y, Y.getD j 0 = y := ⟨_, rfl⟩
              obtain ⟨z, hz⟩ : ∃ z, Q.getD j 0 = z := ⟨_, rfl⟩
              rw [hy] at kY td ri tb fq
              rw [hz] at kQ kQ0 ri fq
              obtain ⟨f1, f2, f3, f4, -⟩ := fq
              have tb2 : s + y ≤ 15300 := by have := HYL.out; omega
              have HTD := Lib.hid td
              obtain ⟨m1, m2⟩ := mul_bd (s + y) d 15300 1048576 (by omega) tb2 (by omega) g6'
              obtain ⟨m3, m4⟩ := mul_bd n (t + u - z) 1048576 15300 g3 g4 (by omega) (by omega)
              obtain ⟨m5, m6⟩ := mul_bd c d 1073741824 1048576 g1 g2 (by omega) g6'
              obtain ⟨P, hP⟩ : ∃ P, (s + y) * d = P := ⟨_, rfl⟩
              obtain ⟨U, hU⟩ : ∃ U, n * (t + u - z) = U := ⟨_, rfl⟩
              obtain ⟨V, hV⟩ : ∃ V, c * d = V := ⟨_, rfl⟩
              rw [hP] at m1 m2 ri
              rw [hU] at m3 m4 ri
              rw [hV] at m5 m6 ri
              have z5 : g5 < (w6.drewN q).heap.size := by simp; omega
              have x0 := keep p0 Bq
              have x1 := keep p1 Bq
              have x2 := keep p2 Bq
              clear td tb hy hz
              go_wp2
              have wP : IntKind.i64.wrap P = P := by rw [IntKind.wrap_i64]; omega
              have wU : IntKind.i64.wrap U = U := by rw [IntKind.wrap_i64]; omega
              have wV : IntKind.i64.wrap V = V := by rw [IntKind.wrap_i64]; omega
              have wVU : IntKind.i64.wrap (V + U) = V + U := by rw [IntKind.wrap_i64]; omega
              have wZ : IntKind.i64.wrap (t + u - z) = t + u - z := by rw [IntKind.wrap_i64]; omega
              have hj0 : (0 : Int) ≤ (j : Int) := by omega
              have hj1 : (j : Int) < (i : Int) + 1 := by omega
              have hj2 : j < i + 1 := by omega
              go_quiet (fail)
              go_wp2
              go_roundw
              case rel => exact ⟨j, _, s + y, by omega, by first | rfl | go_num, rfl, HTD.out.symm, by omega, tb2, rfl⟩
              case measure => first | (simp [intOf]; done) | (simp [intOf]; omega)
        · have RT := Lib.hid (rate_skip hR.out (t + u) (by omega))
          have O5 := Lib.hid O5c
          have O6 := Lib.hid O6c
          have FP := Lib.hid hfc
          clear O5c O6c OR2 hR hfc h0 h1 h2 h3 h4
          have er' : (er == 0) = false := by simpa using hne'
          clear hne'
          go_upto_region 16 with (fail)
          go_wp2_with (at_builtin; refine wpList_append_own_at _ rfl _ _ 45 rfl (S + 1) 3 i0 (.int .i64 0) 1 8 Try.underlying45 hi hz0 hz1 hz2 rfl (by decide) _ i (T.map (Value.int .i64)) rfl (own_alloc O5.out _) ⟨wc.heap.size, 0, none⟩ 1 1 [.int .i64 (t + u)] rfl rfl ?news3 ?one3 ?hlim3 ?hby3 ?hba3 ?_)
          case news3 =>
            intro j u hj
            match j, hj with
            | 0, hj => simp at hj; subst hj; simp [Addr.add]
          case one3 => intro u hu; simp at hu; subst hu; rfl
          case hlim3 => unfold maxLen; omega
          case hby3 => omega
          case hba3 => simp; omega
          intro v5' w5 own5 gr5 _ blk5
          have r5 : ∀ k, Value.ownBlock u5 = some k → S + 1 ≤ k := fun k hk => (own_lt O5.out k hk).1
          have zp : wc.heap.size < w5.heap.size := by have := gr5.size; simp at this; omega
          have m0 : w5.cell? ⟨w.heap.size, 0, none⟩ = some (.int .i64 (c)) := grown_cell gr5 r5 (by omega) (by rw [World.cell?_alloc_past _ _ _ (by omega)]; exact d0)
          have m1 : w5.cell? ⟨w.heap.size, 1, none⟩ = some (.int .i64 (n)) := grown_cell gr5 r5 (by omega) (by rw [World.cell?_alloc_past _ _ _ (by omega)]; exact d1)
          have m2 : w5.cell? ⟨w.heap.size, 2, none⟩ = some (.int .i64 (d)) := grown_cell gr5 r5 (by omega) (by rw [World.cell?_alloc_past _ _ _ (by omega)]; exact d2)
          have m3 : w5.cell? ⟨w.heap.size, 3, none⟩ = some (.int .i64 (L)) := grown_cell gr5 r5 (by omega) (by rw [World.cell?_alloc_past _ _ _ (by omega)]; exact d3)
          have m4 : w5.cell? ⟨w.heap.size, 4, none⟩ = some (.int .i64 (A)) := grown_cell gr5 r5 (by omega) (by rw [World.cell?_alloc_past _ _ _ (by omega)]; exact d4)
          have k0 : w5.cell? ⟨S, 0, none⟩ = some (.int .i64 (c)) := grown_cell gr5 r5 (by omega) (by rw [World.cell?_alloc_past _ _ _ (by omega)]; exact q0)
          have k1 : w5.cell? ⟨S, 1, none⟩ = some (.int .i64 (n)) := grown_cell gr5 r5 (by omega) (by rw [World.cell?_alloc_past _ _ _ (by omega)]; exact q1)
          have k2 : w5.cell? ⟨S, 2, none⟩ = some (.int .i64 (d)) := grown_cell gr5 r5 (by omega) (by rw [World.cell?_alloc_past _ _ _ (by omega)]; exact q2)
          have k3 : w5.cell? ⟨S, 3, none⟩ = some (.int .i64 (l)) := grown_cell gr5 r5 (by omega) (by rw [World.cell?_alloc_past _ _ _ (by omega)]; exact q3)
          have k4 : w5.cell? ⟨S, 4, none⟩ = some (.int .i64 (a)) := grown_cell gr5 r5 (by omega) (by rw [World.cell?_alloc_past _ _ _ (by omega)]; exact q4)
          have f5 : ∀ o, w5.frozen? ⟨w.heap.size, o, none⟩ = false := fun o => (grown_frozen gr5 r5 (by omega) (by simp; omega)).trans ((frozen?_alloc_cells _ _ _ _).trans (FP.out o))
          have B5 : Below w.heap.size w w5 := grown_below (by (repeat' (first | (with_reducible exact Below.refl _ _) | (with_reducible assumption) | (with_reducible refine Below.alloc ?_ ?_ _) | (with_reducible refine Below.drew ?_) | (with_reducible refine below_dn ?_) | (with_reducible refine Below.setCell ?_ ?_ _) | (with_reducible exact Nat.le_refl _) | omega | (simp only [World.size_alloc, World.size_setCell, World.size_drew]; omega) | (simp; omega) | (simp; done)))) gr5 (fun k hk => by have := r5 k hk; omega) (by simp; omega)
          have own6 : w5.ownsRow (S + 1) 3 1 u6 i (X.map (Value.int .i64)) := (own_alloc O6.out _).kept gr5 (by
            rcases NE.out with h | h
            · rw [h]
              by_cases z : Value.ownBlock u6 = none
              · exact Or.inl z
              · exact Or.inr z
            · exact Or.inr (Ne.symm h))
          have lt6 := own_lt O6.out
          have lt5 := own_lt own5
          have NE5 : Hid (∀ g6, Value.ownBlock u6 = some g6 → v5'.ownBlock ≠ some g6) := fun g6 h6 e5 => by
            rcases blk5 with h | h
            · rw [h] at e5
              rcases NE.out with z | z
              · rw [z] at e5; cases e5
              · exact z (e5.trans h6.symm)
            · rw [h] at e5
              have := (lt6 g6 h6).2
              simp at e5
              omega
          have O5' := Lib.hid own5
          have O6' := Lib.hid own6
          have F5 := Lib.hid f5
          have L5 := Lib.hid lt5
          clear gr5 r5 f5 own5 own6 lt6 lt5 blk5 d0 d1 d2 d3 d4 q0 q1 q2 q3 q4
          go_wp2_with (at_builtin; refine wpList_append_own_at _ rfl _ _ 45 rfl (S + 1) 3 i0 (.int .i64 0) 1 8 Try.underlying45 hi hz0 hz1 hz2 rfl (by decide) _ i (X.map (Value.int .i64)) rfl (own_alloc O6'.out _) ⟨w5.heap.size, 0, none⟩ 1 1 [.int .i64 (0)] rfl rfl ?news4 ?one4 ?hlim4 ?hby4 ?hba4 ?_)
          case news4 =>
            intro j u hj
            match j, hj with
            | 0, hj => simp at hj; subst hj; simp [Addr.add]
          case one4 => intro u hu; simp at hu; subst hu; rfl
          case hlim4 => unfold maxLen; omega
          case hby4 => omega
          case hba4 => simp; omega
          intro v6' w6 own6 gr6 _ blk6
          have r6 : ∀ k, Value.ownBlock u6 = some k → S + 1 ≤ k := fun k hk => (own_lt O6'.out k hk).1
          have zp6 : w5.heap.size < w6.heap.size := by have := gr6.size; simp at this; omega
          have p0 : w6.cell? ⟨w.heap.size, 0, none⟩ = some (.int .i64 (c)) := grown_cell gr6 r6 (by omega) (by rw [World.cell?_alloc_past _ _ _ (by omega)]; exact m0)
          have p1 : w6.cell? ⟨w.heap.size, 1, none⟩ = some (.int .i64 (n)) := grown_cell gr6 r6 (by omega) (by rw [World.cell?_alloc_past _ _ _ (by omega)]; exact m1)
          have p2 : w6.cell? ⟨w.heap.size, 2, none⟩ = some (.int .i64 (d)) := grown_cell gr6 r6 (by omega) (by rw [World.cell?_alloc_past _ _ _ (by omega)]; exact m2)
          have p3 : w6.cell? ⟨w.heap.size, 3, none⟩ = some (.int .i64 (L)) := grown_cell gr6 r6 (by omega) (by rw [World.cell?_alloc_past _ _ _ (by omega)]; exact m3)
          have p4 : w6.cell? ⟨w.heap.size, 4, none⟩ = some (.int .i64 (A)) := grown_cell gr6 r6 (by omega) (by rw [World.cell?_alloc_past _ _ _ (by omega)]; exact m4)
          have q0 : w6.cell? ⟨S, 0, none⟩ = some (.int .i64 (c)) := grown_cell gr6 r6 (by omega) (by rw [World.cell?_alloc_past _ _ _ (by omega)]; exact k0)
          have q1 : w6.cell? ⟨S, 1, none⟩ = some (.int .i64 (n)) := grown_cell gr6 r6 (by omega) (by rw [World.cell?_alloc_past _ _ _ (by omega)]; exact k1)
          have q2 : w6.cell? ⟨S, 2, none⟩ = some (.int .i64 (d)) := grown_cell gr6 r6 (by omega) (by rw [World.cell?_alloc_past _ _ _ (by omega)]; exact k2)
          have q3 : w6.cell? ⟨S, 3, none⟩ = some (.int .i64 (l)) := grown_cell gr6 r6 (by omega) (by rw [World.cell?_alloc_past _ _ _ (by omega)]; exact k3)
          have q4 : w6.cell? ⟨S, 4, none⟩ = some (.int .i64 (a)) := grown_cell gr6 r6 (by omega) (by rw [World.cell?_alloc_past _ _ _ (by omega)]; exact k4)
          have f6 : ∀ o, w6.frozen? ⟨w.heap.size, o, none⟩ = false := fun o => (grown_frozen gr6 r6 (by omega) (by simp; omega)).trans ((frozen?_alloc_cells _ _ _ _).trans (F5.out o))
          have B6 : Below w.heap.size w w6 := grown_below (by (repeat' (first | (with_reducible exact Below.refl _ _) | (with_reducible assumption) | (with_reducible refine Below.alloc ?_ ?_ _) | (with_reducible refine Below.drew ?_) | (with_reducible refine below_dn ?_) | (with_reducible refine Below.setCell ?_ ?_ _) | (with_reducible exact Nat.le_refl _) | omega | (simp only [World.size_alloc, World.size_setCell, World.size_drew]; omega) | (simp; omega) | (simp; done)))) gr6 (fun k hk => by have := r6 k hk; omega) (by simp; omega)
          have own5 : w6.ownsRow (S + 1) 3 1 v5' (i + 1) ((T.map (Value.int .i64)) ++ [.int .i64 (t + u)]) := (own_alloc O5'.out _).kept gr6 (by
            cases h6 : Value.ownBlock u6 with
            | none =>
              by_cases z : v5'.ownBlock = none
              · exact Or.inl z
              · exact Or.inr z
            | some g6 => exact Or.inr (NE5.out g6 h6))
          have NE6 : Hid (v5'.ownBlock = none ∨ v5'.ownBlock ≠ v6'.ownBlock) := by
            cases h5 : v5'.ownBlock with
            | none => exact Or.inl rfl
            | some g5 =>
              refine Or.inr fun e => ?_
              rcases blk6 with h | h
              · exact NE5.out g5 (h.symm.trans e.symm) h5
              · rw [h] at e
                have := (L5.out g5 h5).2
                simp at e
                omega
          rw [show (T.map (Value.int .i64)) ++ [Value.int .i64 (t + u)] = (T ++ [t + u]).map (Value.int .i64) by simp] at own5
          rw [show (X.map (Value.int .i64)) ++ [Value.int .i64 (0)] = (X ++ [0]).map (Value.int .i64) by simp] at own6
          obtain ⟨g5, cap5, rfl, gb5, gl5, gc5⟩ := own_cell own5 (by omega)
          obtain ⟨g6, cap6, rfl, gb6, gl6, gc6⟩ := own_cell own6 (by omega)
          have N5 := Lib.hid own5
          have N6 := Lib.hid own6
          have F6 := Lib.hid f6
          have G5 := Lib.hid gc5
          have G6 := Lib.hid gc6
          clear gr6 r6 f6 own5 own6 gc5 gc6 blk6 O5 O6 O5' O6' NE NE5 L5 F5 m0 m1 m2 m3 m4 k0 k1 k2 k3 k4 FP
          obtain ⟨Y, hY⟩ : ∃ Y, X ++ [0] = Y := ⟨_, rfl⟩
          obtain ⟨Q, hQ⟩ : ∃ Q, T ++ [t + u] = Q := ⟨_, rfl⟩
          rw [hY] at N6 G6
          rw [hQ] at N5 G5
          have RT1 := RT.out
          rw [hY, hQ] at RT1
          have RQ := Lib.hid RT1
          have lY : Y.length = i + 1 := by rw [← hY]; simp [hX]
          have lQ : Q.length = i + 1 := by rw [← hQ]; simp [hT]
          have TB := Lib.hid (tot_bd Y (fun k hk => ⟨(RT1.2.2.2.2.1 k hk).1, (RT1.2.2.2.2.1 k hk).2.1⟩))
          have HYL := Lib.hid lY
          have HQL := Lib.hid lQ
          have OKL := Lib.hid RT1.1
          clear hY hQ lY lQ RT RT1
          go_wp2
          go_loopw [13, 14] (fun ss kk wr2 => ∃ (m q : Nat) (s : Int), m ≤ i + 1 ∧ kk = .int .i64 ((m : Int) - 1) ∧ ss = .int .i64 s ∧ Hid (s = tot (Y.drop m)) ∧ 0 ≤ s ∧ s ≤ 15300 ∧ wr2 = w6.drewN q) (fun _ kk _ => (intOf kk + 1).toNat)
          case atStart =>
            refine ⟨i + 1, 0, 0, by omega, ?_, rfl, ?_, by omega, by omega, rfl⟩
            · congr 1; omega
            · show _ = _
              rw [← HYL.out, List.drop_length]; rfl
          case round =>
            obtain ⟨m, q, s, hm, rfl, rfl, hs, s0, s1, rfl⟩ := hrel
            have Bq : Below w6.heap.size w6 (w6.drewN q) := below_dn (Below.refl _ _)
            cases m with
            | zero =>
              rw [show ((0 : Nat) : Int) - 1 = -1 by omega]
              have OKB0 := HH.out
              have tot1 : s ≤ (lvl c n d l a a + n * (t + u + 1 - 1 - a)) / d := by
                have e : lvl c n d l a a = l := by
                  have := OKB0.2.2.2.2.2.2.2.1
                  unfold lvl
                  rw [Int.sub_self, Int.mul_zero]
                  omega
                rw [e, hs.out]
                exact rate_total RQ.out
              have cm := fun W : World => most_ok c n d l a a (t + u + 1) W OKB0 (Int.le_refl _) (by omega) (by omega) (by omega)
              obtain ⟨M, hM⟩ : ∃ M, (lvl c n d l a a + n * (t + u + 1 - 1 - a)) / d = M := ⟨_, rfl⟩
              rw [hM] at cm tot1
              have CM := Lib.hid cm
              clear cm hM OKB0
              obtain ⟨w9, hw9⟩ : ∃ W, w6.drewN q = W := ⟨_, rfl⟩
              rw [hw9] at Bq ⊢
              clear hw9
              have B9 : Below w.heap.size w w9 := bt B6 Bq
              have x0 : w9.cell? ⟨w.heap.size, 0, none⟩ = some (.int .i64 (c)) := keep p0 Bq
              have x1 : w9.cell? ⟨w.heap.size, 1, none⟩ = some (.int .i64 (n)) := keep p1 Bq
              have x2 : w9.cell? ⟨w.heap.size, 2, none⟩ = some (.int .i64 (d)) := keep p2 Bq
              have x3 : w9.cell? ⟨w.heap.size, 3, none⟩ = some (.int .i64 (L)) := keep p3 Bq
              have x4 : w9.cell? ⟨w.heap.size, 4, none⟩ = some (.int .i64 (A)) := keep p4 Bq
              have y0 : w9.cell? ⟨S, 0, none⟩ = some (.int .i64 (c)) := keep q0 Bq
              have y1 : w9.cell? ⟨S, 1, none⟩ = some (.int .i64 (n)) := keep q1 Bq
              have y2 : w9.cell? ⟨S, 2, none⟩ = some (.int .i64 (d)) := keep q2 Bq
              have y3 : w9.cell? ⟨S, 3, none⟩ = some (.int .i64 (l)) := keep q3 Bq
              have y4 : w9.cell? ⟨S, 4, none⟩ = some (.int .i64 (a)) := keep q4 Bq
              have z9 := Bq.size
              go_wp2_with fail
              refine (CM.out _).mono ?_
              rintro e w10 ⟨rfl, hb10⟩
              have B10 : Below w9.heap.size w9 w10 := hb10
              have z10 := hb10.size
              go_wp2
              go_roundw
              case rel =>
                exact ⟨i + 1, t + u, L, A, Q, Y, by omega, by go_num, rfl, HQL.out, HYL.out, by omega, by omega, RQ.out, own_below (own_below N5.out Bq) B10, own_below (own_below N6.out Bq) B10, NE6.out, bt B9 B10, by omega,
                  keep x0 B10, keep x1 B10, keep x2 B10, keep x3 B10, keep x4 B10, fun o => (B10.frozen (p := ⟨w.heap.size, o, none⟩) (by show w.heap.size < _; omega)).trans ((Bq.frozen (p := ⟨w.heap.size, o, none⟩) (by show w.heap.size < _; omega)).trans (F6.out o)), keep y0 B10, keep y1 B10, keep y2 B10, keep y3 B10, keep y4 B10⟩
              case measure => simp [intOf]; omega
            | succ j =>
              rw [show ((j + 1 : Nat) : Int) - 1 = (j : Int) by omega]
              have kY := keep (G6.out j (by omega)) Bq
              have kQ := keep (G5.out j (by omega)) Bq
              have kQ0 := G5.out j (by omega)
              have fq := RQ.out.2.2.2.2.1 j (by have := HYL.out; omega)
              have ri := rate_inner RQ.out j (by have := HYL.out; omega)
              have td := tot_drop Y j (by have := HYL.out; omega)
              have tb := TB.out j (by have := HYL.out; omega)
              rw [← hs.out] at td
              rw [td] at ri tb
              obtain ⟨y, hy⟩ : ∃ y, Y.getD j 0 = y := ⟨_, rfl⟩
              obtain ⟨z, hz⟩ : ∃ z, Q.getD j 0 = z := ⟨_, rfl⟩
              rw [hy] at kY td ri tb fq
              rw [hz] at kQ kQ0 ri fq
              obtain ⟨f1, f2, f3, f4, -⟩ := fq
              have tb2 : s + y ≤ 15300 := by have := HYL.out; omega
              have HTD := Lib.hid td
              obtain ⟨m1, m2⟩ := mul_bd (s + y) d 15300 1048576 (by omega) tb2 (by omega) g6'
              obtain ⟨m3, m4⟩ := mul_bd n (t + u - z) 1048576 15300 g3 g4 (by omega) (by omega)
              obtain ⟨m5, m6⟩ := mul_bd c d 1073741824 1048576 g1 g2 (by omega) g6'
              obtain ⟨P, hP⟩ : ∃ P, (s + y) * d = P := ⟨_, rfl⟩
              obtain ⟨U, hU⟩ : ∃ U, n * (t + u - z) = U := ⟨_, rfl⟩
              obtain ⟨V, hV⟩ : ∃ V, c * d = V := ⟨_, rfl⟩
              rw [hP] at m1 m2 ri
              rw [hU] at m3 m4 ri
              rw [hV] at m5 m6 ri
              have z5 : g5 < (w6.drewN q).heap.size := by simp; omega
              have x0 := keep p0 Bq
              have x1 := keep p1 Bq
              have x2 := keep p2 Bq
              clear td tb hy hz
              go_wp2
              have wP : IntKind.i64.wrap P = P := by rw [IntKind.wrap_i64]; omega
              have wU : IntKind.i64.wrap U = U := by rw [IntKind.wrap_i64]; omega
              have wV : IntKind.i64.wrap V = V := by rw [IntKind.wrap_i64]; omega
              have wVU : IntKind.i64.wrap (V + U) = V + U := by rw [IntKind.wrap_i64]; omega
              have wZ : IntKind.i64.wrap (t + u - z) = t + u - z := by rw [IntKind.wrap_i64]; omega
              have hj0 : (0 : Int) ≤ (j : Int) := by omega
              have hj1 : (j : Int) < (i : Int) + 1 := by omega
              have hj2 : j < i + 1 := by omega
              go_quiet (fail)
              go_wp2
              go_roundw
              case rel => exact ⟨j, _, s + y, by omega, by first | rfl | go_num, rfl, HTD.out.symm, by omega, tb2, rfl⟩
              case measure => first | (simp [intOf]; done) | (simp [intOf]; omega)

    · go_wp2_with fail
      refine (sane' _).mono ?_
      rintro e w2 ⟨rfl, hb2⟩
      have B2 : Below w.heap.size w w2 := bt (by (repeat' (first | (with_reducible exact Below.refl _ _) | (with_reducible assumption) | (with_reducible refine Below.alloc ?_ ?_ _) | (with_reducible refine Below.drew ?_) | (with_reducible refine below_dn ?_) | (with_reducible refine Below.setCell ?_ ?_ _) | (with_reducible exact Nat.le_refl _) | omega | (simp only [World.size_alloc, World.size_setCell, World.size_drew]; omega) | (simp; omega) | (simp; done)))) hb2
      have s2 : w.heap.size ≤ w2.heap.size := B2.size
      clear hb2
      go_wp2
      go_ret
      exact ⟨rfl, by (repeat' (first | (with_reducible exact Below.refl _ _) | (with_reducible assumption) | (with_reducible refine Below.alloc ?_ ?_ _) | (with_reducible refine Below.drew ?_) | (with_reducible refine below_dn ?_) | (with_reducible refine Below.setCell ?_ ?_ _) | (with_reducible exact Nat.le_refl _) | omega | (simp only [World.size_alloc, World.size_setCell, World.size_drew]; omega) | (simp; omega) | (simp; done)))⟩
theorem keepsItsRate (c n d l a : Int) (ad : Option Addr) (cap : Nat) (ls : List (Int × Int)) (w : World) (hp : TriesA w ad ls) (hm : ls.length ≤ 9223372036854775807) :
    Calls Try.prog 5 #[bk c n d l a, .slice ad ls.length cap] w fun e w' => e = .returned (.bool true) ∧ Below w.heap.size w w' := by
  by_cases h : 60 < ls.length ∨ ¬ OkB c n d l a ∨ 1099511527776 < a
  · exact keeps_out _ _ _ _ _ _ _ _ _ hm h
  · have h1 : OkB c n d l a := Decidable.byContradiction fun z => h (Or.inr (Or.inl z))
    exact keeps_in _ _ _ _ _ _ _ _ _ hp (by omega) h1 (by omega)
end Go.Proofs.Ytigalbgailnicaa
