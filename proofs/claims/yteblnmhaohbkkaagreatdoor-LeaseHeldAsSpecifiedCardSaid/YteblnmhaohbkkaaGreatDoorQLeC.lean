/- Contracts of the clock that a lease's worth and a reading need. -/
import Derived.Test.YteblnmhaohbkkaaGreatDoorQLeN
import Derived.Lib.QuietBelow
import Derived.OpenShut
import Derived.Deep.RegionWith
import Derived.StillTailTactics
import Derived.Lib.MinMax
namespace Go.Proofs.YteblnmhaohbkkaaGreatDoor
set_option linter.unusedVariables false
set_option linter.unusedSimpArgs false
namespace Le
open Go.RowKit Go.Sort
def least (n d : Int) : Int := if 0 < n then ((n - 1) * 1000000 + (1000000 + d) - 1) / (1000000 + d) else 0
def great (n d : Int) : Int := (n + 1) * 1000000 / (1000000 - d)
theorem ceil_up {x f : Int} (hf : 0 < f) (h : x / f * f < x) : x / f + 1 = (x + f - 1) / f := by
  have h1 := Int.mul_ediv_add_emod x f
  have h2 := Int.emod_lt_of_pos x hf
  have h3 := Int.emod_nonneg x (Int.ne_of_gt hf)
  have e : f * (x / f) = x / f * f := Int.mul_comm _ _
  symm
  rw [Int.ediv_eq_iff_of_pos hf]
  have e2 : (x / f + 1) * f = x / f * f + f := by rw [Int.add_mul, Int.one_mul]
  omega
theorem ceil_same {x f : Int} (hf : 0 < f) (h : ¬ x / f * f < x) : x / f = (x + f - 1) / f := by
  have h1 := Int.mul_ediv_add_emod x f
  have h2 := Int.emod_lt_of_pos x hf
  have h3 := Int.emod_nonneg x (Int.ne_of_gt hf)
  have e : f * (x / f) = x / f * f := Int.mul_comm _ _
  symm
  rw [Int.ediv_eq_iff_of_pos hf]
  omega
theorem quo_bd {x f : Int} (hx : 0 ≤ x) (hf : 0 < f) : 0 ≤ x / f ∧ x / f ≤ x ∧ 0 ≤ x / f * f ∧ x / f * f ≤ x := by
  have h1 := Int.mul_ediv_add_emod x f
  have h3 := Int.emod_nonneg x (Int.ne_of_gt hf)
  have e : f * (x / f) = x / f * f := Int.mul_comm _ _
  have h4 : 0 ≤ x / f := Int.ediv_nonneg hx (Int.le_of_lt hf)
  have h5 : 0 ≤ x / f * f := Int.mul_nonneg h4 (Int.le_of_lt hf)
  exact ⟨h4, Int.ediv_le_self _ hx, h5, by omega⟩
def rdHi (hi d n : Int) : Int := min 1099511627776 (hi + (n + 1) * 1000000 / (1000000 - d))
def rdLo (lo d n : Int) : Int := min 1099511627776 (lo + least n d)
theorem rdHi_mono (hi d n m : Int) (hd : d ≤ 100000) (h : n ≤ m) : rdHi hi d n ≤ rdHi hi d m := by
  unfold rdHi
  have := Int.ediv_le_ediv (a := (n + 1) * 1000000) (b := (m + 1) * 1000000) (c := 1000000 - d) (by omega) (by omega)
  omega
theorem least_mono (d n m : Int) (hd : 0 ≤ d) (h : n ≤ m) : least n d ≤ least m d := by
  unfold least
  split
  · rw [if_pos (by omega)]
    exact Int.ediv_le_ediv (by omega) (by omega)
  · split
    · exact Int.ediv_nonneg (by omega) (by omega)
    · exact Int.le_refl _
theorem rdLo_mono (lo d n m : Int) (hd : 0 ≤ d) (h : n ≤ m) : rdLo lo d n ≤ rdLo lo d m := by
  unfold rdLo
  have := least_mono d n m hd h
  omega
theorem least_nonneg (d n : Int) (hd : 0 ≤ d) : 0 ≤ least n d := by
  unfold least
  split
  · exact Int.ediv_nonneg (by omega) (by omega)
  · exact Int.le_refl _
/-- What Until returns. -/
def UntilIs (l hi d t u : Int) : Prop :=
  (u = -1 ∧ ∀ x, l ≤ x → x ≤ 2199023255552 → t ≤ rdHi hi d (x - l)) ∨
  (l ≤ u ∧ u ≤ 2199023255552 ∧ rdHi hi d (u - l) < t ∧ (u < 2199023255552 → t ≤ rdHi hi d (u + 1 - l)))
theorem UntilIs.uniq {l hi d t u v : Int} (hd : d ≤ 100000) (h : UntilIs l hi d t u) (k : UntilIs l hi d t v) : u = v := by
  rcases h with ⟨h1, h2⟩ | ⟨h1, h2, h3, h4⟩ <;> rcases k with ⟨k1, k2⟩ | ⟨k1, k2, k3, k4⟩
  · omega
  · have := h2 v k1 k2; omega
  · have := k2 u h1 h2; omega
  · rcases Int.lt_trichotomy u v with c | c | c
    · have := h4 (by omega)
      have := rdHi_mono hi d (u + 1 - l) (v - l) hd (by omega)
      omega
    · exact c
    · have := k4 (by omega)
      have := rdHi_mono hi d (v + 1 - l) (u - l) hd (by omega)
      omega
abbrev clk (l lo hi d : Int) : Value := .agg #[.int .i64 l, .int .i64 lo, .int .i64 hi, .int .i64 d]
theorem bcell {W w1 : World} (hb : Below W.heap.size W w1) : (∀ b o, b < W.heap.size → w1.cell? ⟨b, o, none⟩ = W.cell? ⟨b, o, none⟩) ∧ (∀ b o, b < W.heap.size → w1.frozen? ⟨b, o, none⟩ = W.frozen? ⟨b, o, none⟩) :=
  ⟨fun b o h => hb.cell (p := ⟨b, o, none⟩) h, fun b o h => hb.frozen (p := ⟨b, o, none⟩) h⟩
theorem bcell3 {W w1 : World} (hb : Below W.heap.size W w1) : (∀ b o, b < W.heap.size → w1.cell? ⟨b, o, none⟩ = W.cell? ⟨b, o, none⟩) ∧ (∀ b o, b < W.heap.size → w1.frozen? ⟨b, o, none⟩ = W.frozen? ⟨b, o, none⟩) ∧ ∀ k, k < W.heap.size → k < w1.heap.size :=
  ⟨fun b o h => hb.cell (p := ⟨b, o, none⟩) h, fun b o h => hb.frozen (p := ⟨b, o, none⟩) h, fun _ h => Nat.lt_of_lt_of_le h hb.size⟩
theorem ret_int {k : IntKind} {a b : Int} (h : a = b) : Ending.returned (.int k a) = .returned (.int k b) := by rw [h]
def readB (l : Int) : Bool := decide (0 ≤ l ∧ l ≤ 2199023255552)
theorem isReading_any (l : Int) (w : World) :
    Calls Tryz.prog 46 #[.int .i64 l] w fun e w' => e = .returned (.bool (readB l)) ∧ w = w' := by
  go_enter Tryz.func46, Tryz.ntmps46
  go_wp2
  all_goals
    go_ret
    exact ⟨ret_bool (by unfold readB; first | (apply decide_eq_decide.mpr; omega) | (symm; apply decide_eq_true; omega) | (symm; apply decide_eq_false; omega)), rfl⟩
def chkB (l lo hi d : Int) : Bool := decide (0 ≤ l ∧ l ≤ 2199023255552 ∧ 0 ≤ lo ∧ lo ≤ hi ∧ hi ≤ 1099511627776 ∧ 0 ≤ d ∧ d ≤ 100000)
theorem check_yes (l lo hi d : Int) (w : World) (h : 0 ≤ l ∧ l ≤ 2199023255552 ∧ 0 ≤ lo ∧ lo ≤ hi ∧ hi ≤ 1099511627776 ∧ 0 ≤ d ∧ d ≤ 100000) :
    Calls Tryz.prog 27 #[clk l lo hi d] w fun e w' => e = .returned (.int .i64 0) ∧ Below w.heap.size w w' := by
  obtain ⟨h1, h2, h3, h4, h5, h6, h7⟩ := h
  go_enter Tryz.func27, Tryz.ntmps27
  go_wp2
  go_ret
  exact ⟨rfl, by (repeat' (first | (with_reducible exact Below.refl _ _) | (with_reducible assumption) | (with_reducible refine Below.alloc ?_ ?_ _) | (with_reducible refine Below.drew ?_) | (with_reducible refine below_dn ?_) | (with_reducible refine Below.setCell ?_ ?_ _) | (with_reducible exact Nat.le_refl _) | omega | (simp only [World.size_alloc, World.size_setCell, World.size_drew]; omega) | (simp; omega) | (simp; done)))⟩
theorem check_no (l lo hi d : Int) (w : World) (h : chkB l lo hi d = false) :
    Calls Tryz.prog 27 #[clk l lo hi d] w fun e w' => e = .returned (.int .i64 1) ∧ Below w.heap.size w w' := by
  have H := Lib.hid h; clear h
  go_enter Tryz.func27, Tryz.ntmps27
  go_wp2
  all_goals
    go_ret
    first
    | exact ⟨rfl, by (repeat' (first | (with_reducible exact Below.refl _ _) | (with_reducible assumption) | (with_reducible refine Below.alloc ?_ ?_ _) | (with_reducible refine Below.drew ?_) | (with_reducible refine below_dn ?_) | (with_reducible refine Below.setCell ?_ ?_ _) | (with_reducible exact Nat.le_refl _) | omega | (simp only [World.size_alloc, World.size_setCell, World.size_drew]; omega) | (simp; omega) | (simp; done)))⟩
    | (exfalso; have h := H.out; simp only [chkB, decide_eq_false_iff_not] at h; omega)
def OkClk (l lo hi d : Int) : Prop := 0 ≤ l ∧ l ≤ 2199023255552 ∧ 0 ≤ lo ∧ lo ≤ hi ∧ hi ≤ 1099511627776 ∧ 0 ≤ d ∧ d ≤ 100000
theorem read_pos (l lo hi d x : Int) (w : World) (h : OkClk l lo hi d) (hx : x ≤ 2199023255552) (hn : l < x) :
    Calls Tryz.prog 64 #[clk l lo hi d, .int .i64 x] w fun e w' => e = .returned (.tuple #[per (min 1099511627776 (lo + ((x - l - 1) * 1000000 + (1000000 + d) - 1) / (1000000 + d))) (min 1099511627776 (hi + (x - l + 1) * 1000000 / (1000000 - d))), .int .i64 0]) ∧ Below w.heap.size w w' := by
  obtain ⟨h1, h2, h3, h4, h5, h6, h7⟩ := h
  obtain ⟨k1, k2, -, -⟩ := quo_bd (x := (x - l - 1) * 1000000 + (1000000 + d) - 1) (f := 1000000 + d) (by omega) (by omega)
  obtain ⟨g1, g2, -, -⟩ := quo_bd (x := (x - l + 1) * 1000000) (f := 1000000 - d) (by omega) (by omega)
  go_enter Tryz.func64, Tryz.ntmps64
  go_wp2
  go_quiet (fail)
  go_wp2
  refine bodyPost_ret (by simp [results, Tryz.results64, go_sem]; try rfl) rfl ?_
  exact ⟨rfl, by first | ((repeat' (first | (with_reducible exact Below.refl _ _) | (with_reducible assumption) | (with_reducible refine Below.alloc ?_ ?_ _) | (with_reducible refine Below.drew ?_) | (with_reducible refine below_dn ?_) | (with_reducible refine Below.setCell ?_ ?_ _) | (with_reducible exact Nat.le_refl _) | omega | (simp only [World.size_alloc, World.size_setCell, World.size_drew]; omega) | (simp; omega) | (simp; done))); done) | (refine below_dn ?_; (repeat' (first | (with_reducible exact Below.refl _ _) | (with_reducible assumption) | (with_reducible refine Below.alloc ?_ ?_ _) | (with_reducible refine Below.drew ?_) | (with_reducible refine below_dn ?_) | (with_reducible refine Below.setCell ?_ ?_ _) | (with_reducible exact Nat.le_refl _) | omega | (simp only [World.size_alloc, World.size_setCell, World.size_drew]; omega) | (simp; omega) | (simp; done))); done) | ((repeat' (first | (with_reducible exact Below.refl _ _) | (with_reducible assumption) | (with_reducible refine Below.alloc ?_ ?_ _) | (with_reducible refine Below.drew ?_) | (with_reducible refine below_dn ?_) | (with_reducible refine Below.setCell ?_ ?_ _) | (with_reducible exact Nat.le_refl _) | omega | (simp only [World.size_alloc, World.size_setCell, World.size_drew]; omega) | (simp; omega) | (simp; done))); refine below_dn ?_; (repeat' (first | (with_reducible exact Below.refl _ _) | (with_reducible assumption) | (with_reducible refine Below.alloc ?_ ?_ _) | (with_reducible refine Below.drew ?_) | (with_reducible refine below_dn ?_) | (with_reducible refine Below.setCell ?_ ?_ _) | (with_reducible exact Nat.le_refl _) | omega | (simp only [World.size_alloc, World.size_setCell, World.size_drew]; omega) | (simp; omega) | (simp; done))); done)⟩
theorem read_zero (l lo hi d : Int) (w : World) (h : OkClk l lo hi d) :
    Calls Tryz.prog 64 #[clk l lo hi d, .int .i64 l] w fun e w' => e = .returned (.tuple #[per lo (min 1099511627776 (hi + 1000000 / (1000000 - d))), .int .i64 0]) ∧ Below w.heap.size w w' := by
  obtain ⟨h1, h2, h3, h4, h5, h6, h7⟩ := h
  obtain ⟨g1, g2, -, -⟩ := quo_bd (x := 1000000) (f := 1000000 - d) (by omega) (by omega)
  go_enter Tryz.func64, Tryz.ntmps64
  go_wp2
  go_quiet (fail)
  go_wp2
  refine bodyPost_ret (by simp [results, Tryz.results64, go_sem]; try rfl) rfl ?_
  refine ⟨?_, by first | ((repeat' (first | (with_reducible exact Below.refl _ _) | (with_reducible assumption) | (with_reducible refine Below.alloc ?_ ?_ _) | (with_reducible refine Below.drew ?_) | (with_reducible refine below_dn ?_) | (with_reducible refine Below.setCell ?_ ?_ _) | (with_reducible exact Nat.le_refl _) | omega | (simp only [World.size_alloc, World.size_setCell, World.size_drew]; omega) | (simp; omega) | (simp; done))); done) | (refine below_dn ?_; (repeat' (first | (with_reducible exact Below.refl _ _) | (with_reducible assumption) | (with_reducible refine Below.alloc ?_ ?_ _) | (with_reducible refine Below.drew ?_) | (with_reducible refine below_dn ?_) | (with_reducible refine Below.setCell ?_ ?_ _) | (with_reducible exact Nat.le_refl _) | omega | (simp only [World.size_alloc, World.size_setCell, World.size_drew]; omega) | (simp; omega) | (simp; done))); done) | ((repeat' (first | (with_reducible exact Below.refl _ _) | (with_reducible assumption) | (with_reducible refine Below.alloc ?_ ?_ _) | (with_reducible refine Below.drew ?_) | (with_reducible refine below_dn ?_) | (with_reducible refine Below.setCell ?_ ?_ _) | (with_reducible exact Nat.le_refl _) | omega | (simp only [World.size_alloc, World.size_setCell, World.size_drew]; omega) | (simp; omega) | (simp; done))); refine below_dn ?_; (repeat' (first | (with_reducible exact Below.refl _ _) | (with_reducible assumption) | (with_reducible refine Below.alloc ?_ ?_ _) | (with_reducible refine Below.drew ?_) | (with_reducible refine below_dn ?_) | (with_reducible refine Below.setCell ?_ ?_ _) | (with_reducible exact Nat.le_refl _) | omega | (simp only [World.size_alloc, World.size_setCell, World.size_drew]; omega) | (simp; omega) | (simp; done))); done)⟩
  rw [show min 1099511627776 lo = lo by omega]
theorem read_time (l lo hi d x : Int) (w : World) (h : OkClk l lo hi d) (hx : 0 ≤ x) (hx2 : x ≤ 2199023255552) (hn : x < l) :
    Calls Tryz.prog 64 #[clk l lo hi d, .int .i64 x] w fun e w' => e = .returned (.tuple #[per 0 0, .int .i64 9]) ∧ Below w.heap.size w w' := by
  obtain ⟨h1, h2, h3, h4, h5, h6, h7⟩ := h
  go_enter Tryz.func64, Tryz.ntmps64
  go_wp2
  refine bodyPost_ret (by simp [results, Tryz.results64, go_sem]; try rfl) rfl ?_
  exact ⟨rfl, by (repeat' (first | (with_reducible exact Below.refl _ _) | (with_reducible assumption) | (with_reducible refine Below.alloc ?_ ?_ _) | (with_reducible refine Below.drew ?_) | (with_reducible refine below_dn ?_) | (with_reducible refine Below.setCell ?_ ?_ _) | (with_reducible exact Nat.le_refl _) | omega | (simp only [World.size_alloc, World.size_setCell, World.size_drew]; omega) | (simp; omega) | (simp; done)))⟩
theorem read_arg (l lo hi d x : Int) (w : World) (h : OkClk l lo hi d) (hx : x < 0 ∨ 2199023255552 < x) :
    Calls Tryz.prog 64 #[clk l lo hi d, .int .i64 x] w fun e w' => e = .returned (.tuple #[per 0 0, .int .i64 1]) ∧ Below w.heap.size w w' := by
  obtain ⟨h1, h2, h3, h4, h5, h6, h7⟩ := h
  rcases hx with hx | hx
  · go_enter Tryz.func64, Tryz.ntmps64
    go_wp2
    refine bodyPost_ret (by simp [results, Tryz.results64, go_sem]; try rfl) rfl ?_
    exact ⟨rfl, by (repeat' (first | (with_reducible exact Below.refl _ _) | (with_reducible assumption) | (with_reducible refine Below.alloc ?_ ?_ _) | (with_reducible refine Below.drew ?_) | (with_reducible refine below_dn ?_) | (with_reducible refine Below.setCell ?_ ?_ _) | (with_reducible exact Nat.le_refl _) | omega | (simp only [World.size_alloc, World.size_setCell, World.size_drew]; omega) | (simp; omega) | (simp; done)))⟩
  · have hd : decide (x ≤ 2199023255552) = false := by simp; omega
    go_enter Tryz.func64, Tryz.ntmps64
    go_wp2
    refine bodyPost_ret (by simp [results, Tryz.results64, go_sem]; try rfl) rfl ?_
    exact ⟨rfl, by (repeat' (first | (with_reducible exact Below.refl _ _) | (with_reducible assumption) | (with_reducible refine Below.alloc ?_ ?_ _) | (with_reducible refine Below.drew ?_) | (with_reducible refine below_dn ?_) | (with_reducible refine Below.setCell ?_ ?_ _) | (with_reducible exact Nat.le_refl _) | omega | (simp only [World.size_alloc, World.size_setCell, World.size_drew]; omega) | (simp; omega) | (simp; done)))⟩
theorem read_ok (l lo hi d x : Int) (w : World) (h : OkClk l lo hi d) (hx : x ≤ 2199023255552) (hn : l ≤ x) :
    Calls Tryz.prog 64 #[clk l lo hi d, .int .i64 x] w fun e w' => e = .returned (.tuple #[per (rdLo lo d (x - l)) (rdHi hi d (x - l)), .int .i64 0]) ∧ Below w.heap.size w w' := by
  by_cases c : l = x
  · subst c
    have := read_zero l lo hi d w h
    have e1 : rdLo lo d (l - l) = lo := by obtain ⟨h1, h2, h3, h4, h5, h6, h7⟩ := h; unfold rdLo least; rw [if_neg (by omega)]; omega
    have e2 : rdHi hi d (l - l) = min 1099511627776 (hi + 1000000 / (1000000 - d)) := by unfold rdHi; rw [Int.sub_self]; rfl
    rw [e1, e2]; exact this
  · have := read_pos l lo hi d x w h hx (by omega)
    have e1 : rdLo lo d (x - l) = min 1099511627776 (lo + ((x - l - 1) * 1000000 + (1000000 + d) - 1) / (1000000 + d)) := by unfold rdLo least; rw [if_pos (by omega)]
    rw [e1]; exact this
set_option maxHeartbeats 400000 in
theorem csearch_any (n : Int) (a b : Value) (p : Int → Bool) (I : World → Prop) (w : World) (hn : 0 ≤ n) (hn2 : n ≤ 2199023255553)
    (hI : ∀ W W', I W → Below W.heap.size W W' → I W') (hw : I w)
    (hcall : ∀ i W, 0 ≤ i → i < n → I W → Calls Tryz.prog 63 #[.int .i64 i, a, b] W fun e w' => e = .returned (.bool (p i)) ∧ Below W.heap.size W w') :
    Calls Tryz.prog 62 #[.int .i64 n, .func (.func 63) #[] #[a, b]] w fun e w' => (∃ r : Int, e = .returned (.int .i64 r) ∧ 0 ≤ r ∧ r ≤ n ∧ (0 < r → p (r - 1) = false) ∧ (r < n → p r = true)) ∧ Below w.heap.size w w' := by
  go_enter Tryz.func62, Tryz.ntmps62
  go_wp2
  go_loopw [5, 6] (fun i j wr => ∃ x y : Int, i = .int .i64 x ∧ j = .int .i64 y ∧ 0 ≤ x ∧ x ≤ y ∧ y ≤ n ∧ I wr ∧ Below w.heap.size w wr ∧ Hid (0 < x → p (x - 1) = false) ∧ Hid (y < n → p y = true)) (fun i j _ => (intOf j - intOf i).toNat)
  case atStart => exact ⟨0, n, rfl, rfl, by omega, by omega, by omega, hw, Below.refl _ _, fun h => absurd h (by omega), fun h => absurd h (by omega)⟩
  case round =>
    obtain ⟨x, y, rfl, rfl, hx, hxy, hy, hIw, hB, h1, h2⟩ := hrel
    by_cases hlt : x < y
    · have hm1 : x ≤ (x + y) / 2 := by omega
      have hm2 : (x + y) / 2 < y := by omega
      go_wp2_with fail
      refine (hcall _ _ (by omega) (by omega) hIw).mono ?_
      rintro e w1 ⟨rfl, hb⟩
      have hI1 := hI _ _ hIw hb
      have hB1 := hB.trans (hb.mono hB.size)
      rcases hp : p ((x + y) / 2) with _ | _
      all_goals
        have HP := Lib.hid hp; clear hp
        go_wp2
        go_roundw
        case rel =>
          first
          | exact ⟨(x + y) / 2 + 1, y, rfl, rfl, by omega, by omega, by omega, hI1, hB1, fun _ => by rw [show (x + y) / 2 + 1 - 1 = (x + y) / 2 by omega]; exact HP.out, h2⟩
          | exact ⟨x, (x + y) / 2, rfl, rfl, by omega, by omega, by omega, hI1, hB1, h1, fun _ => HP.out⟩
        case measure => simp [intOf]; omega
    · go_wp2
      go_ret
      obtain rfl : x = y := by omega
      exact ⟨⟨x, rfl, hx, hy, h1, h2⟩, hB⟩
/-- The cells of a boxed clock and of a boxed instant. -/
structure Cap (k m : Nat) (l lo hi d t : Int) (W : World) : Prop where
  c0 : W.cell? ⟨k, 0, none⟩ = some (.int .i64 l)
  c1 : W.cell? ⟨k, 1, none⟩ = some (.int .i64 lo)
  c2 : W.cell? ⟨k, 2, none⟩ = some (.int .i64 hi)
  c3 : W.cell? ⟨k, 3, none⟩ = some (.int .i64 d)
  c4 : W.cell? ⟨m, 0, none⟩ = some (.int .i64 t)
theorem keep {W W' : World} {b o : Nat} {v : Value} (h : W.cell? ⟨b, o, none⟩ = some v) (hb : Below W.heap.size W W') : W'.cell? ⟨b, o, none⟩ = some v := by
  rw [hb.cell (p := ⟨b, o, none⟩) (block_lt_of_cell h)]; exact h
theorem Cap.mono {k m : Nat} {l lo hi d t : Int} {W W' : World} (h : Cap k m l lo hi d t W) (hb : Below W.heap.size W W') : Cap k m l lo hi d t W' :=
  ⟨keep h.c0 hb, keep h.c1 hb, keep h.c2 hb, keep h.c3 hb, keep h.c4 hb⟩
set_option maxHeartbeats 400000 in
theorem until1_any (k m : Nat) (l lo hi d t i : Int) (w : World) (h : OkClk l lo hi d) (hi0 : 0 ≤ i) (hi1 : l + i ≤ 2199023255552) (hc : Cap k m l lo hi d t w) :
    Calls Tryz.prog 63 #[.int .i64 i, .pointer (some ⟨k, 0, none⟩), .pointer (some ⟨m, 0, none⟩)] w fun e w' => e = .returned (.bool (!decide (rdHi hi d (l + i - l) < t))) ∧ Below w.heap.size w w' := by
  obtain ⟨c0, c1, c2, c3, c4⟩ := hc
  have H := Lib.hid h
  obtain ⟨h1, h2, h3, h4, h5, h6, h7⟩ := h
  have b4 := block_lt_of_cell c4
  simp only at b4
  go_enter Tryz.func63, Tryz.ntmps63
  go_wp2_with fail
  refine (read_ok l lo hi d (l + i) _ H.out hi1 (by omega)).mono ?_
  rintro e w1 ⟨rfl, hb⟩
  have k4 := keep c4 hb
  have b5 := Nat.lt_of_lt_of_le b4 hb.size
  go_wp2_with fail
  refine (before_any _ _ _ _).mono ?_
  rintro e w2 ⟨rfl, hb2⟩
  go_wp2
  go_ret
  exact ⟨rfl, bt (bt hb (by (repeat' (first | (with_reducible exact Below.refl _ _) | (with_reducible assumption) | (with_reducible refine Below.alloc ?_ ?_ _) | (with_reducible refine Below.drew ?_) | (with_reducible refine below_dn ?_) | (with_reducible refine Below.setCell ?_ ?_ _) | (with_reducible exact Nat.le_refl _) | omega | (simp only [World.size_alloc, World.size_setCell, World.size_drew]; omega) | (simp; omega) | (simp; done))))) hb2⟩
set_option maxHeartbeats 400000 in
theorem until_any (l lo hi d t : Int) (w : World) (h : OkClk l lo hi d) :
    Calls Tryz.prog 47 #[clk l lo hi d, .int .i64 t] w fun e w' => (∃ u : Int, e = .returned (.int .i64 u) ∧ UntilIs l hi d t u) ∧ Below w.heap.size w w' := by
  have H := Lib.hid h
  obtain ⟨h1, h2, h3, h4, h5, h6, h7⟩ := h
  go_enter Tryz.func47, Tryz.ntmps47
  go_wp2_with fail
  refine (csearch_any (2199023255552 - l + 1) _ _ (fun i => !decide (rdHi hi d (l + i - l) < t)) (Cap w.heap.size (w.heap.size + 1) l lo hi d t) _ (by omega) (by omega) (fun W W' => Cap.mono) ⟨by go_cell, by go_cell, by go_cell, by go_cell, by go_cell⟩ (fun i W hi0 hi1 hI => until1_any _ _ l lo hi d t i W H.out hi0 (by omega) hI)).mono ?_
  rintro e w1 ⟨⟨r, rfl, hr0, hr1, hr2, hr3⟩, hb⟩
  have R2 := Lib.hid hr2
  have R3 := Lib.hid hr3
  clear hr2 hr3
  have z1 := keep (b := w.heap.size) (o := 0) (v := .int .i64 l) (by go_cell) hb
  by_cases hz : r = 0
  · subst hz
    go_wp2
    go_ret
    exact ⟨⟨-1, rfl, Or.inl ⟨rfl, fun x hx1 hx2 => by
      have h0 := R3.out (by omega)
      have := rdHi_mono hi d (l + 0 - l) (x - l) h7 (by omega)
      have e0 : l + 0 - l = 0 := by omega
      rw [e0] at this h0; simp at h0; omega⟩⟩, bt (by (repeat' (first | (with_reducible exact Below.refl _ _) | (with_reducible assumption) | (with_reducible refine Below.alloc ?_ ?_ _) | (with_reducible refine Below.drew ?_) | (with_reducible refine below_dn ?_) | (with_reducible refine Below.setCell ?_ ?_ _) | (with_reducible exact Nat.le_refl _) | omega | (simp only [World.size_alloc, World.size_setCell, World.size_drew]; omega) | (simp; omega) | (simp; done)))) hb⟩
  · have hz' : (r == 0) = false := by simpa using hz
    go_wp2
    go_ret
    refine ⟨⟨l + r - 1, rfl, Or.inr ⟨by omega, by omega, ?_, fun hx => ?_⟩⟩, bt (by (repeat' (first | (with_reducible exact Below.refl _ _) | (with_reducible assumption) | (with_reducible refine Below.alloc ?_ ?_ _) | (with_reducible refine Below.drew ?_) | (with_reducible refine below_dn ?_) | (with_reducible refine Below.setCell ?_ ?_ _) | (with_reducible exact Nat.le_refl _) | omega | (simp only [World.size_alloc, World.size_setCell, World.size_drew]; omega) | (simp; omega) | (simp; done)))) hb⟩
    · have h0 := R2.out (by omega)
      have e : l + (r - 1) - l = l + r - 1 - l := by omega
      simp only [e] at h0; simpa using h0
    · have h0 := R3.out (by omega)
      have e : l + r - 1 + 1 - l = l + r - l := by omega
      rw [e]; simpa using h0
noncomputable def untilF (l hi d t : Int) : Int := Classical.epsilon (UntilIs l hi d t)
theorem untilF_is {l hi d t u : Int} (h : UntilIs l hi d t u) : UntilIs l hi d t (untilF l hi d t) := Classical.epsilon_spec ⟨u, h⟩
theorem untilF_eq {l lo hi d t u : Int} (k : OkClk l lo hi d) (h : UntilIs l hi d t u) : untilF l hi d t = u := (untilF_is h).uniq k.2.2.2.2.2.2 h
theorem UntilIs.bd {l hi d t u : Int} (hl : 0 ≤ l) (h : UntilIs l hi d t u) : -1 ≤ u ∧ u ≤ 2199023255552 := by
  rcases h with ⟨h1, h2⟩ | ⟨h1, h2, h3, h4⟩ <;> omega
theorem until_fn (l lo hi d t : Int) (w : World) (h : OkClk l lo hi d) :
    Calls Tryz.prog 47 #[clk l lo hi d, .int .i64 t] w fun e w' => (e = .returned (.int .i64 (untilF l hi d t)) ∧ UntilIs l hi d t (untilF l hi d t)) ∧ Below w.heap.size w w' :=
  (until_any l lo hi d t w h).mono fun e w' ⟨⟨u, he, hu⟩, hb⟩ => ⟨⟨by rw [untilF_eq h hu]; exact he, untilF_is hu⟩, hb⟩
theorem worth_out (l lo hi d x t : Int) (w : World) (h : x < l ∨ 2199023255552 < x) :
    Calls Tryz.prog 28 #[clk l lo hi d, .int .i64 x, .int .i64 t] w fun e w' => e = .returned (.int .i64 0) ∧ Below w.heap.size w w' := by
  rcases h with h | h
  all_goals
    go_enter Tryz.func28, Tryz.ntmps28
    go_wp2
    all_goals
      go_ret
      exact ⟨rfl, by (repeat' (first | (with_reducible exact Below.refl _ _) | (with_reducible assumption) | (with_reducible refine Below.alloc ?_ ?_ _) | (with_reducible refine Below.drew ?_) | (with_reducible refine below_dn ?_) | (with_reducible refine Below.setCell ?_ ?_ _) | (with_reducible exact Nat.le_refl _) | omega | (simp only [World.size_alloc, World.size_setCell, World.size_drew]; omega) | (simp; omega) | (simp; done)))⟩
theorem worth_in (l lo hi d x t : Int) (w : World) (h : OkClk l lo hi d) (k1 : l ≤ x) (k2 : x ≤ 2199023255552) :
    Calls Tryz.prog 28 #[clk l lo hi d, .int .i64 x, .int .i64 t] w fun e w' => e = .returned (.int .i64 (max 0 (untilF l hi d t + 1 - x))) ∧ Below w.heap.size w w' := by
  have H := Lib.hid h
  obtain ⟨h1, h2, h3, h4, h5, h6, h7⟩ := h
  go_enter Tryz.func28, Tryz.ntmps28
  go_wp2_with fail
  refine (until_fn l lo hi d t _ H.out).mono ?_
  rintro e w1 ⟨⟨rfl, hu⟩, hb⟩
  obtain ⟨b1, b2⟩ := hu.bd h1
  have HU := Lib.hid hu; clear hu
  go_wp2
  go_ret
  exact ⟨rfl, bt (by (repeat' (first | (with_reducible exact Below.refl _ _) | (with_reducible assumption) | (with_reducible refine Below.alloc ?_ ?_ _) | (with_reducible refine Below.drew ?_) | (with_reducible refine below_dn ?_) | (with_reducible refine Below.setCell ?_ ?_ _) | (with_reducible exact Nat.le_refl _) | omega | (simp only [World.size_alloc, World.size_setCell, World.size_drew]; omega) | (simp; omega) | (simp; done)))) hb⟩
end Le
end Go.Proofs.YteblnmhaohbkkaaGreatDoor
