/- The parts of a bucket, and the bucket. -/
import Derived.Test.YtigalbgailnicaaZ8
import Derived.Test.YtigalbgailnicaaR6
import Derived.Test.YtigalbgailnicaaP5
import Derived.Deep.Cut
import Derived.Deep.CutRange
import Derived.Deep.DeepCutAuto
import Derived.Deep.RegionWith
import Derived.StillTailTactics
namespace Go.Proofs.Ytigalbgailnicaa
set_option linter.unusedVariables false
set_option linter.unusedSimpArgs false
open Go.RowKit Go.Sort
/-- A slice of tries at parts in memory, nil included. -/
def Tries3 (W : World) (a : Option Addr) (ls : List (Int × Int × Int)) : Prop :=
  ∀ k, k < ls.length → ∃ b off, a = some ⟨b, off, none⟩ ∧ W.cell? ⟨b, off + k * 3, none⟩ = some (.int .u8 (ls.getD k (0, 0, 0)).1) ∧ W.cell? ⟨b, off + k * 3 + 1, none⟩ = some (.int .u8 (ls.getD k (0, 0, 0)).2.1) ∧ W.cell? ⟨b, off + k * 3 + 2, none⟩ = some (.int .u8 (ls.getD k (0, 0, 0)).2.2) ∧
    0 ≤ (ls.getD k (0, 0, 0)).1 ∧ (ls.getD k (0, 0, 0)).1 ≤ 255 ∧ 0 ≤ (ls.getD k (0, 0, 0)).2.1 ∧ (ls.getD k (0, 0, 0)).2.1 ≤ 255 ∧ 0 ≤ (ls.getD k (0, 0, 0)).2.2 ∧ (ls.getD k (0, 0, 0)).2.2 ≤ 255
theorem Tries3.mono {W W' : World} {a : Option Addr} {ls : List (Int × Int × Int)} (h : Tries3 W a ls) (hb : Below W.heap.size W W') : Tries3 W' a ls := by
  intro k hk
  obtain ⟨b, off, e, h1, h2, h3, h4⟩ := h k hk
  exact ⟨b, off, e, keep h1 hb, keep h2 hb, keep h3 hb, h4⟩
/-- The parts' cells, one behind the other. -/
def PartsAt (W : World) (g : Nat) (ps : List Bk) : Prop := ∀ k, k < ps.length → PartIs W g k (ps.getD k Bk.zero)
theorem PartIs.keep {W W' : World} {g k : Nat} {b : Bk} (h : PartIs W g k b) (hb : Below W.heap.size W W') : PartIs W' g k b :=
  ⟨Go.Proofs.Ytigalbgailnicaa.keep h.1 hb, Go.Proofs.Ytigalbgailnicaa.keep h.2.1 hb, Go.Proofs.Ytigalbgailnicaa.keep h.2.2.1 hb, Go.Proofs.Ytigalbgailnicaa.keep h.2.2.2.1 hb, Go.Proofs.Ytigalbgailnicaa.keep h.2.2.2.2 hb⟩
theorem PartsAt.keep {W W' : World} {g : Nat} {ps : List Bk} (h : PartsAt W g ps) (hb : Below W.heap.size W W') : PartsAt W' g ps := fun k hk => (h k hk).keep hb
theorem PartsAt.bkts {W : World} {g : Nat} {ps : List Bk} (h : PartsAt W g ps) : BktsA W (some ⟨g, 0, none⟩) ps := by
  intro k hk
  obtain ⟨h0, h1, h2, h3, h4⟩ := h k hk
  exact ⟨g, 0, rfl, by rw [Nat.zero_add]; exact h0, by rw [Nat.zero_add]; exact h1, by rw [Nat.zero_add]; exact h2, by rw [Nat.zero_add]; exact h3, by rw [Nat.zero_add]; exact h4⟩
/-- The world after part k has been stored. -/
def putPart (W : World) (g k : Nat) (b : Bk) : World :=
  ((((W.setCell ⟨g, k * 5, none⟩ (.int .i64 b.c)).setCell ⟨g, k * 5 + 1, none⟩ (.int .i64 b.n)).setCell ⟨g, k * 5 + 2, none⟩ (.int .i64 b.d)).setCell ⟨g, k * 5 + 3, none⟩ (.int .i64 b.l)).setCell ⟨g, k * 5 + 4, none⟩ (.int .i64 b.a)
theorem putPart_same (W : World) (g k : Nat) (b : Bk) (h : ∃ b0, PartIs W g k b0) : PartIs (putPart W g k b) g k b := by
  obtain ⟨b0, h0, h1, h2, h3, h4⟩ := h
  unfold putPart
  exact ⟨by go_cell, by go_cell, by go_cell, by go_cell, by go_cell⟩
theorem putPart_other (W : World) (g k : Nat) (b : Bk) (x o : Nat) (h : x ≠ g ∨ o < k * 5 ∨ k * 5 + 4 < o) : (putPart W g k b).cell? ⟨x, o, none⟩ = W.cell? ⟨x, o, none⟩ := by
  unfold putPart
  have e : ∀ j, j < 5 → (⟨g, k * 5 + j, none⟩ : Addr) ≠ ⟨x, o, none⟩ := fun j hj e => by
    simp only [Addr.mk.injEq, and_true] at e
    omega
  rw [World.cell?_setCell_other _ _ _ _ (e 4 (by omega)), World.cell?_setCell_other _ _ _ _ (e 3 (by omega)), World.cell?_setCell_other _ _ _ _ (e 2 (by omega)), World.cell?_setCell_other _ _ _ _ (e 1 (by omega)), World.cell?_setCell_other _ _ _ _ (by simpa using e 0 (by omega))]
theorem putPart_set {W : World} {g k : Nat} {b : Bk} {ps : List Bk} (h : PartsAt W g ps) (hk : k < ps.length) : PartsAt (putPart W g k b) g (ps.set k b) := by
  intro j hj
  have hj' : j < ps.length := by simpa using hj
  rw [getD_set _ _ _ _ hk]
  by_cases e : j = k
  · rw [if_pos e, e]
    exact putPart_same W g k b ⟨_, h k hk⟩
  · rw [if_neg e]
    exact (h j hj').same fun i hi => putPart_other _ _ _ _ _ _ (by omega)
theorem putPart_frozen (W : World) (g k : Nat) (b : Bk) (p : Addr) : (putPart W g k b).frozen? p = W.frozen? p := by
  unfold putPart
  (repeat rw [World.frozen?_setCell])
theorem putPart_size (W : World) (g k : Nat) (b : Bk) : (putPart W g k b).heap.size = W.heap.size := by unfold putPart; simp
theorem putPart_below {B : Nat} {w0 W : World} {g k : Nat} {b : Bk} (h : Below B w0 W) (hB : B ≤ g) : Below B w0 (putPart W g k b) := by
  unfold putPart
  exact ((((h.setCell hB _).setCell hB _).setCell hB _).setCell hB _).setCell hB _
theorem PartsAt.store {W : World} {g b o : Nat} {v : Value} {ps : List Bk} (h : PartsAt W g ps) (hb : b ≠ g) : PartsAt (W.setCell ⟨b, o, none⟩ v) g ps := fun k hk => (h k hk).same fun j hj =>
  World.cell?_setCell_other _ _ _ _ (fun e => hb (by simp only [Addr.mk.injEq] at e; exact e.1))
theorem merge_parts {c n d l a : Int} {cs ns : List Int} (h : OkB c n d l a) (h1 : 1 ≤ cs.length) (h2 : cs.length ≤ 64) (h3 : ns.length = cs.length) (hbc : addB c cs = true) (hbn : addB n ns = true) (g cap : Nat) (W : World) (hp : PartsAt W g (parts l d a cs ns)) :
    Calls Try.prog 25 #[.slice (some ⟨g, 0, none⟩) cs.length cap] W fun e w' => e = .returned (.tuple #[bk c n d l a, .int .i64 0]) ∧ Below W.heap.size W w' := by
  obtain ⟨s1, s2, s3⟩ := split_sums (a := a) h h3 hbc hbn
  have d0 : ((parts l d a cs ns).getD 0 Bk.zero).d = d := by rw [parts_at _ _ _ _ _ _ (by omega)]; rfl
  have a0 : ((parts l d a cs ns).getD 0 Bk.zero).a = a := by rw [parts_at _ _ _ _ _ _ (by omega)]; rfl
  have hl := parts_len l d a cs ns
  have := merge_ok (parts l d a cs ns) (some ⟨g, 0, none⟩) cap cs.length W hp.bkts (by omega) (by omega) (fun k hk => parts_goes h h1 h3 hbc hbn k (by omega)) hl.symm (by rw [s1, s2, s3, d0, a0]; exact h)
  rw [hl, s1, s2, s3, d0, a0] at this
  exact this
set_option maxRecDepth 100000 in
set_option maxHeartbeats 2000000 in
theorem parts_out (c n d l a : Int) (ac an ad : Option Addr) (capc capn cap : Nat) (cs ns : List Int) (ls : List (Int × Int × Int)) (w : World) (hm : ls.length ≤ 9223372036854775807) (hm1 : cs.length ≤ 9223372036854775807) (h : 64 < cs.length ∨ 60 < ls.length ∨ ¬ OkB c n d l a ∨ 1099511527776 < a) :
    Calls Try.prog 8 #[bk c n d l a, .slice ac cs.length capc, .slice an ns.length capn, .slice ad ls.length cap] w fun e w' => e = .returned (.bool true) ∧ Below w.heap.size w w' := by
  by_cases h0 : 64 < cs.length
  · go_enter Try.func8, Try.ntmps8
    go_wp2_with fail
    refine (sane' _).mono ?_
    rintro e w1 ⟨rfl, hb1⟩
    have B1 : Below w.heap.size w w1 := bt (by (repeat' (first | (with_reducible exact Below.refl _ _) | (with_reducible assumption) | (with_reducible refine Below.alloc ?_ ?_ _) | (with_reducible refine Below.drew ?_) | (with_reducible refine below_dn ?_) | (with_reducible refine Below.setCell ?_ ?_ _) | (with_reducible exact Nat.le_refl _) | omega | (simp only [World.size_alloc, World.size_setCell, World.size_drew]; omega) | (simp; omega) | (simp; done)))) hb1
    have s1 : w.heap.size ≤ w1.heap.size := B1.size
    clear hb1
    go_wp2
    go_ret
    exact ⟨rfl, by (repeat' (first | (with_reducible exact Below.refl _ _) | (with_reducible assumption) | (with_reducible refine Below.alloc ?_ ?_ _) | (with_reducible refine Below.drew ?_) | (with_reducible refine below_dn ?_) | (with_reducible refine Below.setCell ?_ ?_ _) | (with_reducible exact Nat.le_refl _) | omega | (simp only [World.size_alloc, World.size_setCell, World.size_drew]; omega) | (simp; omega) | (simp; done)))⟩
  have h0' : cs.length ≤ 64 := by omega
  by_cases h1 : 60 < ls.length
  · go_enter Try.func8, Try.ntmps8
    go_wp2_with fail
    refine (sane' _).mono ?_
    rintro e w1 ⟨rfl, hb1⟩
    have B1 : Below w.heap.size w w1 := bt (by (repeat' (first | (with_reducible exact Below.refl _ _) | (with_reducible assumption) | (with_reducible refine Below.alloc ?_ ?_ _) | (with_reducible refine Below.drew ?_) | (with_reducible refine below_dn ?_) | (with_reducible refine Below.setCell ?_ ?_ _) | (with_reducible exact Nat.le_refl _) | omega | (simp only [World.size_alloc, World.size_setCell, World.size_drew]; omega) | (simp; omega) | (simp; done)))) hb1
    have s1 : w.heap.size ≤ w1.heap.size := B1.size
    clear hb1
    go_wp2
    go_ret
    exact ⟨rfl, by (repeat' (first | (with_reducible exact Below.refl _ _) | (with_reducible assumption) | (with_reducible refine Below.alloc ?_ ?_ _) | (with_reducible refine Below.drew ?_) | (with_reducible refine below_dn ?_) | (with_reducible refine Below.setCell ?_ ?_ _) | (with_reducible exact Nat.le_refl _) | omega | (simp only [World.size_alloc, World.size_setCell, World.size_drew]; omega) | (simp; omega) | (simp; done)))⟩
  have h1' : ls.length ≤ 60 := by omega
  by_cases h2 : OkB c n d l a
  · have h3 : 1099511527776 < a := h.resolve_left h0 |>.resolve_left h1 |>.resolve_left (fun z => z h2)
    have HH := Lib.hid h2
    clear h h0 h1 h2
    go_enter Try.func8, Try.ntmps8
    go_wp2_with fail
    refine (valid_yes _ _ _ _ _ _ HH.out).mono ?_
    rintro e w1 ⟨rfl, hb1⟩
    have B1 : Below w.heap.size w w1 := bt (by (repeat' (first | (with_reducible exact Below.refl _ _) | (with_reducible assumption) | (with_reducible refine Below.alloc ?_ ?_ _) | (with_reducible refine Below.drew ?_) | (with_reducible refine below_dn ?_) | (with_reducible refine Below.setCell ?_ ?_ _) | (with_reducible exact Nat.le_refl _) | omega | (simp only [World.size_alloc, World.size_setCell, World.size_drew]; omega) | (simp; omega) | (simp; done)))) hb1
    have s1 : w.heap.size ≤ w1.heap.size := B1.size
    have z1_b : w.heap.size < w1.heap.size := by (have := hb1.size; (try simp at this); omega)
    have x1_b : w.heap.size ≤ w1.heap.size := Nat.le_of_lt z1_b
    have d1_b_0 : w1.cell? ⟨w.heap.size, 0, none⟩ = some (.int .i64 c) := keep (by go_cell) hb1
    have d1_b_1 : w1.cell? ⟨w.heap.size, 1, none⟩ = some (.int .i64 n) := keep (by go_cell) hb1
    have d1_b_2 : w1.cell? ⟨w.heap.size, 2, none⟩ = some (.int .i64 d) := keep (by go_cell) hb1
    have d1_b_3 : w1.cell? ⟨w.heap.size, 3, none⟩ = some (.int .i64 l) := keep (by go_cell) hb1
    have d1_b_4 : w1.cell? ⟨w.heap.size, 4, none⟩ = some (.int .i64 a) := keep (by go_cell) hb1
    clear hb1
    go_wp2_with fail
    refine (sane' _).mono ?_
    rintro e w2 ⟨rfl, hb2⟩
    have B2 : Below w.heap.size w w2 := bt (by (repeat' (first | (with_reducible exact Below.refl _ _) | (with_reducible assumption) | (with_reducible refine Below.alloc ?_ ?_ _) | (with_reducible refine Below.drew ?_) | (with_reducible refine below_dn ?_) | (with_reducible refine Below.setCell ?_ ?_ _) | (with_reducible exact Nat.le_refl _) | omega | (simp only [World.size_alloc, World.size_setCell, World.size_drew]; omega) | (simp; omega) | (simp; done)))) hb2
    have s2 : w.heap.size ≤ w2.heap.size := B2.size
    have z2_b : w.heap.size < w2.heap.size := by (have := hb2.size; (try simp at this); omega)
    have x2_b : w.heap.size ≤ w2.heap.size := Nat.le_of_lt z2_b
    have d2_b_0 : w2.cell? ⟨w.heap.size, 0, none⟩ = some (.int .i64 c) := keep (by go_cell) hb2
    have d2_b_1 : w2.cell? ⟨w.heap.size, 1, none⟩ = some (.int .i64 n) := keep (by go_cell) hb2
    have d2_b_2 : w2.cell? ⟨w.heap.size, 2, none⟩ = some (.int .i64 d) := keep (by go_cell) hb2
    have d2_b_3 : w2.cell? ⟨w.heap.size, 3, none⟩ = some (.int .i64 l) := keep (by go_cell) hb2
    have d2_b_4 : w2.cell? ⟨w.heap.size, 4, none⟩ = some (.int .i64 a) := keep (by go_cell) hb2
    clear hb2 d1_b_0 d1_b_1 d1_b_2 d1_b_3 d1_b_4
    go_wp2
    go_ret
    exact ⟨rfl, by (repeat' (first | (with_reducible exact Below.refl _ _) | (with_reducible assumption) | (with_reducible refine Below.alloc ?_ ?_ _) | (with_reducible refine Below.drew ?_) | (with_reducible refine below_dn ?_) | (with_reducible refine Below.setCell ?_ ?_ _) | (with_reducible exact Nat.le_refl _) | omega | (simp only [World.size_alloc, World.size_setCell, World.size_drew]; omega) | (simp; omega) | (simp; done)))⟩
  · have HH := Lib.hid h2
    clear h h0 h1 h2
    go_enter Try.func8, Try.ntmps8
    go_wp2_with fail
    refine (valid_no _ _ _ _ _ _ HH.out).mono ?_
    rintro e w1 ⟨rfl, hb1⟩
    have B1 : Below w.heap.size w w1 := bt (by (repeat' (first | (with_reducible exact Below.refl _ _) | (with_reducible assumption) | (with_reducible refine Below.alloc ?_ ?_ _) | (with_reducible refine Below.drew ?_) | (with_reducible refine below_dn ?_) | (with_reducible refine Below.setCell ?_ ?_ _) | (with_reducible exact Nat.le_refl _) | omega | (simp only [World.size_alloc, World.size_setCell, World.size_drew]; omega) | (simp; omega) | (simp; done)))) hb1
    have s1 : w.heap.size ≤ w1.heap.size := B1.size
    have z1_b : w.heap.size < w1.heap.size := by (have := hb1.size; (try simp at this); omega)
    have x1_b : w.heap.size ≤ w1.heap.size := Nat.le_of_lt z1_b
    have d1_b_0 : w1.cell? ⟨w.heap.size, 0, none⟩ = some (.int .i64 c) := keep (by go_cell) hb1
    have d1_b_1 : w1.cell? ⟨w.heap.size, 1, none⟩ = some (.int .i64 n) := keep (by go_cell) hb1
    have d1_b_2 : w1.cell? ⟨w.heap.size, 2, none⟩ = some (.int .i64 d) := keep (by go_cell) hb1
    have d1_b_3 : w1.cell? ⟨w.heap.size, 3, none⟩ = some (.int .i64 l) := keep (by go_cell) hb1
    have d1_b_4 : w1.cell? ⟨w.heap.size, 4, none⟩ = some (.int .i64 a) := keep (by go_cell) hb1
    clear hb1
    go_wp2_with fail
    refine (sane' _).mono ?_
    rintro e w2 ⟨rfl, hb2⟩
    have B2 : Below w.heap.size w w2 := bt (by (repeat' (first | (with_reducible exact Below.refl _ _) | (with_reducible assumption) | (with_reducible refine Below.alloc ?_ ?_ _) | (with_reducible refine Below.drew ?_) | (with_reducible refine below_dn ?_) | (with_reducible refine Below.setCell ?_ ?_ _) | (with_reducible exact Nat.le_refl _) | omega | (simp only [World.size_alloc, World.size_setCell, World.size_drew]; omega) | (simp; omega) | (simp; done)))) hb2
    have s2 : w.heap.size ≤ w2.heap.size := B2.size
    have z2_b : w.heap.size < w2.heap.size := by (have := hb2.size; (try simp at this); omega)
    have x2_b : w.heap.size ≤ w2.heap.size := Nat.le_of_lt z2_b
    have d2_b_0 : w2.cell? ⟨w.heap.size, 0, none⟩ = some (.int .i64 c) := keep (by go_cell) hb2
    have d2_b_1 : w2.cell? ⟨w.heap.size, 1, none⟩ = some (.int .i64 n) := keep (by go_cell) hb2
    have d2_b_2 : w2.cell? ⟨w.heap.size, 2, none⟩ = some (.int .i64 d) := keep (by go_cell) hb2
    have d2_b_3 : w2.cell? ⟨w.heap.size, 3, none⟩ = some (.int .i64 l) := keep (by go_cell) hb2
    have d2_b_4 : w2.cell? ⟨w.heap.size, 4, none⟩ = some (.int .i64 a) := keep (by go_cell) hb2
    clear hb2 d1_b_0 d1_b_1 d1_b_2 d1_b_3 d1_b_4
    go_wp2
    go_ret
    exact ⟨rfl, by (repeat' (first | (with_reducible exact Below.refl _ _) | (with_reducible assumption) | (with_reducible refine Below.alloc ?_ ?_ _) | (with_reducible refine Below.drew ?_) | (with_reducible refine below_dn ?_) | (with_reducible refine Below.setCell ?_ ?_ _) | (with_reducible exact Nat.le_refl _) | omega | (simp only [World.size_alloc, World.size_setCell, World.size_drew]; omega) | (simp; omega) | (simp; done)))⟩
set_option maxRecDepth 100000 in
set_option maxHeartbeats 2000000 in
theorem parts_refused (c n d l a : Int) (ac an ad : Option Addr) (capc capn cap : Nat) (cs ns : List Int) (ls : List (Int × Int × Int)) (w : World) (hm : ls.length ≤ 60) (hm1 : cs.length ≤ 64) (h : OkB c n d l a) (ha : a ≤ 1099511527776) (hr : ∀ W, Below w.heap.size w W → Calls Try.prog 24 #[bk c n d l a, .slice ac cs.length capc, .slice an ns.length capn] W fun e w' => e = .returned (.tuple #[.slice none 0 0, .int .i64 1]) ∧ Below W.heap.size W w') :
    Calls Try.prog 8 #[bk c n d l a, .slice ac cs.length capc, .slice an ns.length capn, .slice ad ls.length cap] w fun e w' => e = .returned (.bool true) ∧ Below w.heap.size w w' := by
  have HH := Lib.hid h
  have HR := Lib.hid hr
  clear h hr
  go_enter Try.func8, Try.ntmps8
  go_wp2_with fail
  refine (valid_yes _ _ _ _ _ _ HH.out).mono ?_
  rintro e w1 ⟨rfl, hb1⟩
  have B1 : Below w.heap.size w w1 := bt (by (repeat' (first | (with_reducible exact Below.refl _ _) | (with_reducible assumption) | (with_reducible refine Below.alloc ?_ ?_ _) | (with_reducible refine Below.drew ?_) | (with_reducible refine below_dn ?_) | (with_reducible refine Below.setCell ?_ ?_ _) | (with_reducible exact Nat.le_refl _) | omega | (simp only [World.size_alloc, World.size_setCell, World.size_drew]; omega) | (simp; omega) | (simp; done)))) hb1
  have s1 : w.heap.size ≤ w1.heap.size := B1.size
  have z1_b : w.heap.size < w1.heap.size := by (have := hb1.size; (try simp at this); omega)
  have x1_b : w.heap.size ≤ w1.heap.size := Nat.le_of_lt z1_b
  have d1_b_0 : w1.cell? ⟨w.heap.size, 0, none⟩ = some (.int .i64 c) := keep (by go_cell) hb1
  have d1_b_1 : w1.cell? ⟨w.heap.size, 1, none⟩ = some (.int .i64 n) := keep (by go_cell) hb1
  have d1_b_2 : w1.cell? ⟨w.heap.size, 2, none⟩ = some (.int .i64 d) := keep (by go_cell) hb1
  have d1_b_3 : w1.cell? ⟨w.heap.size, 3, none⟩ = some (.int .i64 l) := keep (by go_cell) hb1
  have d1_b_4 : w1.cell? ⟨w.heap.size, 4, none⟩ = some (.int .i64 a) := keep (by go_cell) hb1
  clear hb1
  go_wp2_with fail
  refine (HR.out _ B1).mono ?_
  rintro e w2 ⟨rfl, hb2⟩
  have B2 : Below w.heap.size w w2 := bt (by (repeat' (first | (with_reducible exact Below.refl _ _) | (with_reducible assumption) | (with_reducible refine Below.alloc ?_ ?_ _) | (with_reducible refine Below.drew ?_) | (with_reducible refine below_dn ?_) | (with_reducible refine Below.setCell ?_ ?_ _) | (with_reducible exact Nat.le_refl _) | omega | (simp only [World.size_alloc, World.size_setCell, World.size_drew]; omega) | (simp; omega) | (simp; done)))) hb2
  have s2 : w.heap.size ≤ w2.heap.size := B2.size
  have z2_b : w.heap.size < w2.heap.size := by (have := hb2.size; (try simp at this); omega)
  have x2_b : w.heap.size ≤ w2.heap.size := Nat.le_of_lt z2_b
  have d2_b_0 : w2.cell? ⟨w.heap.size, 0, none⟩ = some (.int .i64 c) := keep (by go_cell) hb2
  have d2_b_1 : w2.cell? ⟨w.heap.size, 1, none⟩ = some (.int .i64 n) := keep (by go_cell) hb2
  have d2_b_2 : w2.cell? ⟨w.heap.size, 2, none⟩ = some (.int .i64 d) := keep (by go_cell) hb2
  have d2_b_3 : w2.cell? ⟨w.heap.size, 3, none⟩ = some (.int .i64 l) := keep (by go_cell) hb2
  have d2_b_4 : w2.cell? ⟨w.heap.size, 4, none⟩ = some (.int .i64 a) := keep (by go_cell) hb2
  clear hb2 d1_b_0 d1_b_1 d1_b_2 d1_b_3 d1_b_4
  go_wp2_with fail
  refine (sane' _).mono ?_
  rintro e w3 ⟨rfl, hb3⟩
  have B3 : Below w.heap.size w w3 := bt (by (repeat' (first | (with_reducible exact Below.refl _ _) | (with_reducible assumption) | (with_reducible refine Below.alloc ?_ ?_ _) | (with_reducible refine Below.drew ?_) | (with_reducible refine below_dn ?_) | (with_reducible refine Below.setCell ?_ ?_ _) | (with_reducible exact Nat.le_refl _) | omega | (simp only [World.size_alloc, World.size_setCell, World.size_drew]; omega) | (simp; omega) | (simp; done)))) hb3
  have s3 : w.heap.size ≤ w3.heap.size := B3.size
  have z3_b : w.heap.size < w3.heap.size := by (have := hb3.size; (try simp at this); omega)
  have x3_b : w.heap.size ≤ w3.heap.size := Nat.le_of_lt z3_b
  have d3_b_0 : w3.cell? ⟨w.heap.size, 0, none⟩ = some (.int .i64 c) := keep (by go_cell) hb3
  have d3_b_1 : w3.cell? ⟨w.heap.size, 1, none⟩ = some (.int .i64 n) := keep (by go_cell) hb3
  have d3_b_2 : w3.cell? ⟨w.heap.size, 2, none⟩ = some (.int .i64 d) := keep (by go_cell) hb3
  have d3_b_3 : w3.cell? ⟨w.heap.size, 3, none⟩ = some (.int .i64 l) := keep (by go_cell) hb3
  have d3_b_4 : w3.cell? ⟨w.heap.size, 4, none⟩ = some (.int .i64 a) := keep (by go_cell) hb3
  clear hb3 d2_b_0 d2_b_1 d2_b_2 d2_b_3 d2_b_4
  go_wp2
  go_ret
  exact ⟨rfl, by (repeat' (first | (with_reducible exact Below.refl _ _) | (with_reducible assumption) | (with_reducible refine Below.alloc ?_ ?_ _) | (with_reducible refine Below.drew ?_) | (with_reducible refine below_dn ?_) | (with_reducible refine Below.setCell ?_ ?_ _) | (with_reducible exact Nat.le_refl _) | omega | (simp only [World.size_alloc, World.size_setCell, World.size_drew]; omega) | (simp; omega) | (simp; done)))⟩
end Go.Proofs.Ytigalbgailnicaa
