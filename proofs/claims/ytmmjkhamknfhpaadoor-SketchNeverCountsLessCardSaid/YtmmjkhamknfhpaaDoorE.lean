/- Contracts: Valid of both. -/
import Derived.Test.YtmmjkhamknfhpaaDoorD
namespace Go.Proofs.YtmmjkhamknfhpaaDoor
set_option linter.unusedVariables false
set_option linter.unusedSimpArgs false
open Go.RowKit
/-- A bool came back that says whether p. -/
def Judged (e : Ending) (p : Prop) : Prop := ∃ b, e = .returned (.bool b) ∧ (b = true ↔ p)
/-- Is a cell right? -/
def okc (A c : Int) : Prop := 0 ≤ c ∧ c ≤ 15 ∧ c ≤ A
/-- Is a sketch valid? -/
structure Ok (W S A : Int) (l : List Int) : Prop where
  two : pw W = true
  w : W ≤ 4096
  s1 : 1 ≤ S
  s2 : S ≤ 1048576
  a0 : 0 ≤ A
  a1 : A < S
  len : (l.length : Int) = 4 * W
  cells : ∀ j, j < l.length → okc A (l.getD j 0)
theorem Ok.all {W S A : Int} {l : List Int} (h : Ok W S A l) : ∀ x ∈ l, 0 ≤ x ∧ x ≤ 15 := fun x hx => by
  obtain ⟨k, hk, rfl⟩ := List.getElem_of_mem hx
  have := h.cells k hk
  rw [getD_at 0 hk] at this
  exact ⟨this.1, this.2.1⟩
theorem Ok.pos {W S A : Int} {l : List Int} (h : Ok W S A l) : 0 < W := pw_pos h.two
set_option maxRecDepth 100000 in
set_option maxHeartbeats 400000 in
theorem valid_any (W S A : Int) (a : Option Addr) (cap : Nat) (l : List Int) (w : World) (hp : IntsA w a l) (hm : l.length ≤ 9223372036854775807) (b1 : -9223372036854775808 ≤ W) (b2 : W ≤ 9223372036854775807) :
    Calls Tryd.prog 14 #[.agg #[.int .i64 W, .int .i64 S, .int .i64 A, .slice a l.length cap]] w fun e w' => Judged e (Ok W S A l) ∧ Below w.heap.size w w' := by
  have HP := Lib.hid hp
  have PC := Lib.hid (fun X : World => ispow_any W X b1 b2)
  obtain ⟨n, hn⟩ : ∃ n, l.length = n := ⟨_, rfl⟩
  have HE := Lib.hid hn
  rw [hn] at hm ⊢
  clear hp hn b1 b2
  by_cases P1 : pw W = true
  case neg =>
    have q1 : pw W = false := by cases h : pw W; rfl; exact absurd h P1
    rw [q1] at PC
    clear q1
    have NO := Lib.hid (show ¬ Ok W S A l from fun h => P1 h.two)
    clear P1
    go_enter Tryd.func14, Tryd.ntmps14
    go_wp2_with fail
    refine (PC.out _).mono ?_
    rintro e w1 ⟨rfl, rfl⟩
    go_wp2
    go_ret
    exact ⟨⟨false, rfl, ⟨(fun h => by cases h), fun h => absurd h NO.out⟩⟩, by (repeat' (first | (with_reducible exact Below.refl _ _) | (with_reducible assumption) | (with_reducible refine Below.alloc ?_ ?_ _) | (with_reducible refine Below.drew ?_) | (with_reducible refine below_dn ?_) | (with_reducible refine Below.setCell ?_ ?_ _) | (with_reducible exact Nat.le_refl _) | omega | (simp only [World.size_alloc, World.size_setCell, World.size_drew]; omega) | (simp; omega) | (simp; done)))⟩
  by_cases P2 : W ≤ 4096
  case neg =>
    rw [P1] at PC
    have q : 4096 < W := by omega
    have NO := Lib.hid (show ¬ Ok W S A l from fun h => by have := h.w; omega)
    clear P2
    go_enter Tryd.func14, Tryd.ntmps14
    go_wp2_with fail
    refine (PC.out _).mono ?_
    rintro e w1 ⟨rfl, rfl⟩
    go_wp2
    go_ret
    exact ⟨⟨false, rfl, ⟨(fun h => by cases h), fun h => absurd h NO.out⟩⟩, by (repeat' (first | (with_reducible exact Below.refl _ _) | (with_reducible assumption) | (with_reducible refine Below.alloc ?_ ?_ _) | (with_reducible refine Below.drew ?_) | (with_reducible refine below_dn ?_) | (with_reducible refine Below.setCell ?_ ?_ _) | (with_reducible exact Nat.le_refl _) | omega | (simp only [World.size_alloc, World.size_setCell, World.size_drew]; omega) | (simp; omega) | (simp; done)))⟩
  by_cases P3 : 1 ≤ S
  case neg =>
    rw [P1] at PC
    have q : S < 1 := by omega
    have NO := Lib.hid (show ¬ Ok W S A l from fun h => by have := h.s1; omega)
    clear P3
    go_enter Tryd.func14, Tryd.ntmps14
    go_wp2_with fail
    refine (PC.out _).mono ?_
    rintro e w1 ⟨rfl, rfl⟩
    go_wp2
    go_ret
    exact ⟨⟨false, rfl, ⟨(fun h => by cases h), fun h => absurd h NO.out⟩⟩, by (repeat' (first | (with_reducible exact Below.refl _ _) | (with_reducible assumption) | (with_reducible refine Below.alloc ?_ ?_ _) | (with_reducible refine Below.drew ?_) | (with_reducible refine below_dn ?_) | (with_reducible refine Below.setCell ?_ ?_ _) | (with_reducible exact Nat.le_refl _) | omega | (simp only [World.size_alloc, World.size_setCell, World.size_drew]; omega) | (simp; omega) | (simp; done)))⟩
  by_cases P4 : S ≤ 1048576
  case neg =>
    rw [P1] at PC
    have q : 1048576 < S := by omega
    have NO := Lib.hid (show ¬ Ok W S A l from fun h => by have := h.s2; omega)
    clear P4
    go_enter Tryd.func14, Tryd.ntmps14
    go_wp2_with fail
    refine (PC.out _).mono ?_
    rintro e w1 ⟨rfl, rfl⟩
    go_wp2
    go_ret
    exact ⟨⟨false, rfl, ⟨(fun h => by cases h), fun h => absurd h NO.out⟩⟩, by (repeat' (first | (with_reducible exact Below.refl _ _) | (with_reducible assumption) | (with_reducible refine Below.alloc ?_ ?_ _) | (with_reducible refine Below.drew ?_) | (with_reducible refine below_dn ?_) | (with_reducible refine Below.setCell ?_ ?_ _) | (with_reducible exact Nat.le_refl _) | omega | (simp only [World.size_alloc, World.size_setCell, World.size_drew]; omega) | (simp; omega) | (simp; done)))⟩
  by_cases P5 : 0 ≤ A
  case neg =>
    rw [P1] at PC
    have q : A < 0 := by omega
    have NO := Lib.hid (show ¬ Ok W S A l from fun h => by have := h.a0; omega)
    clear P5
    go_enter Tryd.func14, Tryd.ntmps14
    go_wp2_with fail
    refine (PC.out _).mono ?_
    rintro e w1 ⟨rfl, rfl⟩
    go_wp2
    go_ret
    exact ⟨⟨false, rfl, ⟨(fun h => by cases h), fun h => absurd h NO.out⟩⟩, by (repeat' (first | (with_reducible exact Below.refl _ _) | (with_reducible assumption) | (with_reducible refine Below.alloc ?_ ?_ _) | (with_reducible refine Below.drew ?_) | (with_reducible refine below_dn ?_) | (with_reducible refine Below.setCell ?_ ?_ _) | (with_reducible exact Nat.le_refl _) | omega | (simp only [World.size_alloc, World.size_setCell, World.size_drew]; omega) | (simp; omega) | (simp; done)))⟩
  by_cases P6 : A < S
  case neg =>
    rw [P1] at PC
    have q : S ≤ A := by omega
    have NO := Lib.hid (show ¬ Ok W S A l from fun h => by have := h.a1; omega)
    clear P6
    go_enter Tryd.func14, Tryd.ntmps14
    go_wp2_with fail
    refine (PC.out _).mono ?_
    rintro e w1 ⟨rfl, rfl⟩
    go_wp2
    go_ret
    exact ⟨⟨false, rfl, ⟨(fun h => by cases h), fun h => absurd h NO.out⟩⟩, by (repeat' (first | (with_reducible exact Below.refl _ _) | (with_reducible assumption) | (with_reducible refine Below.alloc ?_ ?_ _) | (with_reducible refine Below.drew ?_) | (with_reducible refine below_dn ?_) | (with_reducible refine Below.setCell ?_ ?_ _) | (with_reducible exact Nat.le_refl _) | omega | (simp only [World.size_alloc, World.size_setCell, World.size_drew]; omega) | (simp; omega) | (simp; done)))⟩
  by_cases P7 : (n : Int) = 4 * W
  case neg =>
    have p0 := pw_pos P1
    rw [P1] at PC
    obtain ⟨V, hV⟩ : ∃ V, 4 * W = V := ⟨_, rfl⟩
    have v1 : IntKind.i64.wrap (4 * W) = V := by rw [IntKind.wrap_i64]; omega
    have t7 : ((n : Int) != V) = true := bne_iff_ne.2 (by omega)
    have NO := Lib.hid (show ¬ Ok W S A l from fun h => P7 (by have := h.len; rw [HE.out] at this; exact this))
    clear P7 hV
    go_enter Tryd.func14, Tryd.ntmps14
    go_wp2_with fail
    refine (PC.out _).mono ?_
    rintro e w1 ⟨rfl, rfl⟩
    go_wp2
    go_ret
    exact ⟨⟨false, rfl, ⟨(fun h => by cases h), fun h => absurd h NO.out⟩⟩, by (repeat' (first | (with_reducible exact Below.refl _ _) | (with_reducible assumption) | (with_reducible refine Below.alloc ?_ ?_ _) | (with_reducible refine Below.drew ?_) | (with_reducible refine below_dn ?_) | (with_reducible refine Below.setCell ?_ ?_ _) | (with_reducible exact Nat.le_refl _) | omega | (simp only [World.size_alloc, World.size_setCell, World.size_drew]; omega) | (simp; omega) | (simp; done)))⟩
  have p0 := pw_pos P1
  rw [P1] at PC
  obtain ⟨V, hV⟩ : ∃ V, 4 * W = V := ⟨_, rfl⟩
  have v1 : IntKind.i64.wrap (4 * W) = V := by rw [IntKind.wrap_i64]; omega
  have v2 : 4 * W = V := hV
  have t7 : ((n : Int) != V) = false := by rw [P7, hV]; simp
  have OKA := Lib.hid (show (∀ j, j < l.length → okc A (l.getD j 0)) ↔ Ok W S A l from ⟨fun h => ⟨P1, P2, P3, P4, P5, P6, by rw [HE.out]; exact P7, h⟩, fun h => h.cells⟩)
  clear P1 P7 hV
  go_enter Tryd.func14, Tryd.ntmps14
  go_wp2_with fail
  refine (PC.out _).mono ?_
  rintro e w1 ⟨rfl, rfl⟩
  have K1 := Lib.hid (show Blk (w.alloc (.cells #[.int .i64 W, .int .i64 S, .int .i64 A, .slice a n cap] 24)) w.heap.size 24 #[.int .i64 W, .int .i64 S, .int .i64 A, .slice a n cap] from Blk.new' _ _ _ _ rfl rfl)
  have B1 := Lib.hid (show Below w.heap.size w (w.alloc (.cells #[.int .i64 W, .int .i64 S, .int .i64 A, .slice a n cap] 24)) from (Below.refl _ _).alloc (Nat.le_refl _) _)
  go_wp2
  go_loopw [48, 4] (fun u9 _ wr => ∃ k : Nat, k ≤ n ∧ u9 = .int .i64 k ∧ Hid (∀ j, j < k → okc A (l.getD j 0)) ∧ Hid (Blk wr w.heap.size 24 #[.int .i64 W, .int .i64 S, .int .i64 A, .slice a n cap]) ∧ Hid (Below w.heap.size w wr)) (fun u9 _ _ => n - (intOf u9).toNat)
  case atStart => exact ⟨0, by omega, rfl, Lib.hid (fun j hj => absurd hj (by omega)), K1, B1⟩
  case round =>
    clear K1 B1
    obtain ⟨k, hk, rfl, ha, K1, hbe⟩ := hrel
    have c2 : wr.cell? ⟨w.heap.size, 2, none⟩ = some (.int .i64 A) := K1.out.cell 2
    have c3 : wr.cell? ⟨w.heap.size, 3, none⟩ = some (.slice a n cap) := K1.out.cell 3
    by_cases hlt : k < n
    · obtain ⟨b, off, rfl, q1⟩ := (HP.out.mono hbe.out) k (by rw [HE.out]; exact hlt)
      have NO := Lib.hid (show ¬ okc A (l.getD k 0) → ¬ Ok W S A l from fun h1 h2 => h1 (h2.cells k (by rw [HE.out]; exact hlt)))
      have YES := Lib.hid (show okc A (l.getD k 0) → ∀ j, j < k + 1 → okc A (l.getD j 0) from fun h1 j hj => by
        rcases Nat.lt_or_ge j k with h | h
        · exact ha.out j h
        · rw [show j = k by omega]; exact h1)
      obtain ⟨x, hx⟩ : ∃ x, l.getD k 0 = x := ⟨_, rfl⟩
      rw [hx] at q1 NO YES
      clear hx ha
      by_cases x0 : x < 0
      · have N2 := Lib.hid (NO.out (fun h => by have := h.1; omega))
        have d0 : decide (x < 0) = true := decide_eq_true x0
        go_wp2
        go_ret
        exact ⟨⟨false, rfl, ⟨(fun h => by cases h), fun h => absurd h N2.out⟩⟩, hbe.out⟩
      have d0 : decide (x < 0) = false := decide_eq_false x0
      by_cases x1 : 15 < x
      · have N2 := Lib.hid (NO.out (fun h => by have := h.2.1; omega))
        have d1 : decide (15 < x) = true := decide_eq_true x1
        go_wp2
        go_ret
        exact ⟨⟨false, rfl, ⟨(fun h => by cases h), fun h => absurd h N2.out⟩⟩, hbe.out⟩
      have d1 : decide (15 < x) = false := decide_eq_false x1
      by_cases x2 : A < x
      · have N2 := Lib.hid (NO.out (fun h => by have := h.2.2; omega))
        have d2 : decide (A < x) = true := decide_eq_true x2
        go_wp2
        go_ret
        exact ⟨⟨false, rfl, ⟨(fun h => by cases h), fun h => absurd h N2.out⟩⟩, hbe.out⟩
      have d2 : decide (A < x) = false := decide_eq_false x2
      have Y2 := Lib.hid (YES.out ⟨by omega, by omega, by omega⟩)
      go_wp2
      go_roundw
      case rel => exact ⟨k + 1, by omega, by go_num, Y2, K1, hbe⟩
      case measure => simp [intOf]; omega
    · have OKL := Lib.hid (OKA.out.1 fun j hj => ha.out j (by rw [HE.out] at hj; omega))
      go_wp2
      go_ret
      exact ⟨⟨true, rfl, ⟨fun _ => OKL.out, fun _ => rfl⟩⟩, hbe.out⟩
set_option maxRecDepth 100000 in
set_option maxHeartbeats 400000 in
theorem validref_any (W S A : Int) (a : Option Addr) (cap : Nat) (l : List Int) (w : World) (hp : IntsA w a l) (hm : l.length ≤ 9223372036854775807) (b1 : -9223372036854775808 ≤ W) (b2 : W ≤ 9223372036854775807) :
    Calls Tryd.prog 12 #[.agg #[.int .i64 W, .int .i64 S, .int .i64 A, .slice a l.length cap]] w fun e w' => Judged e (Ok W S A l) ∧ Below w.heap.size w w' := by
  have HP := Lib.hid hp
  have PC := Lib.hid (fun X : World => powref_any W X b1 b2)
  obtain ⟨n, hn⟩ : ∃ n, l.length = n := ⟨_, rfl⟩
  have HE := Lib.hid hn
  rw [hn] at hm ⊢
  clear hp hn b1 b2
  by_cases P1 : pw W = true
  case neg =>
    have q1 : pw W = false := by cases h : pw W; rfl; exact absurd h P1
    rw [q1] at PC
    clear q1
    have NO := Lib.hid (show ¬ Ok W S A l from fun h => P1 h.two)
    clear P1
    go_enter Tryd.func12, Tryd.ntmps12
    go_wp2_with fail
    refine (PC.out _).mono ?_
    rintro e w1 ⟨rfl, rfl⟩
    go_wp2
    go_ret
    exact ⟨⟨false, rfl, ⟨(fun h => by cases h), fun h => absurd h NO.out⟩⟩, by (repeat' (first | (with_reducible exact Below.refl _ _) | (with_reducible assumption) | (with_reducible refine Below.alloc ?_ ?_ _) | (with_reducible refine Below.drew ?_) | (with_reducible refine below_dn ?_) | (with_reducible refine Below.setCell ?_ ?_ _) | (with_reducible exact Nat.le_refl _) | omega | (simp only [World.size_alloc, World.size_setCell, World.size_drew]; omega) | (simp; omega) | (simp; done)))⟩
  by_cases P2 : W ≤ 4096
  case neg =>
    rw [P1] at PC
    have q : 4096 < W := by omega
    have NO := Lib.hid (show ¬ Ok W S A l from fun h => by have := h.w; omega)
    clear P2
    go_enter Tryd.func12, Tryd.ntmps12
    go_wp2_with fail
    refine (PC.out _).mono ?_
    rintro e w1 ⟨rfl, rfl⟩
    go_wp2
    go_ret
    exact ⟨⟨false, rfl, ⟨(fun h => by cases h), fun h => absurd h NO.out⟩⟩, by (repeat' (first | (with_reducible exact Below.refl _ _) | (with_reducible assumption) | (with_reducible refine Below.alloc ?_ ?_ _) | (with_reducible refine Below.drew ?_) | (with_reducible refine below_dn ?_) | (with_reducible refine Below.setCell ?_ ?_ _) | (with_reducible exact Nat.le_refl _) | omega | (simp only [World.size_alloc, World.size_setCell, World.size_drew]; omega) | (simp; omega) | (simp; done)))⟩
  by_cases P3 : 1 ≤ S
  case neg =>
    rw [P1] at PC
    have q : S < 1 := by omega
    have NO := Lib.hid (show ¬ Ok W S A l from fun h => by have := h.s1; omega)
    clear P3
    go_enter Tryd.func12, Tryd.ntmps12
    go_wp2_with fail
    refine (PC.out _).mono ?_
    rintro e w1 ⟨rfl, rfl⟩
    go_wp2
    go_ret
    exact ⟨⟨false, rfl, ⟨(fun h => by cases h), fun h => absurd h NO.out⟩⟩, by (repeat' (first | (with_reducible exact Below.refl _ _) | (with_reducible assumption) | (with_reducible refine Below.alloc ?_ ?_ _) | (with_reducible refine Below.drew ?_) | (with_reducible refine below_dn ?_) | (with_reducible refine Below.setCell ?_ ?_ _) | (with_reducible exact Nat.le_refl _) | omega | (simp only [World.size_alloc, World.size_setCell, World.size_drew]; omega) | (simp; omega) | (simp; done)))⟩
  by_cases P4 : S ≤ 1048576
  case neg =>
    rw [P1] at PC
    have q : 1048576 < S := by omega
    have NO := Lib.hid (show ¬ Ok W S A l from fun h => by have := h.s2; omega)
    clear P4
    go_enter Tryd.func12, Tryd.ntmps12
    go_wp2_with fail
    refine (PC.out _).mono ?_
    rintro e w1 ⟨rfl, rfl⟩
    go_wp2
    go_ret
    exact ⟨⟨false, rfl, ⟨(fun h => by cases h), fun h => absurd h NO.out⟩⟩, by (repeat' (first | (with_reducible exact Below.refl _ _) | (with_reducible assumption) | (with_reducible refine Below.alloc ?_ ?_ _) | (with_reducible refine Below.drew ?_) | (with_reducible refine below_dn ?_) | (with_reducible refine Below.setCell ?_ ?_ _) | (with_reducible exact Nat.le_refl _) | omega | (simp only [World.size_alloc, World.size_setCell, World.size_drew]; omega) | (simp; omega) | (simp; done)))⟩
  by_cases P5 : 0 ≤ A
  case neg =>
    rw [P1] at PC
    have q : A < 0 := by omega
    have NO := Lib.hid (show ¬ Ok W S A l from fun h => by have := h.a0; omega)
    clear P5
    go_enter Tryd.func12, Tryd.ntmps12
    go_wp2_with fail
    refine (PC.out _).mono ?_
    rintro e w1 ⟨rfl, rfl⟩
    go_wp2
    go_ret
    exact ⟨⟨false, rfl, ⟨(fun h => by cases h), fun h => absurd h NO.out⟩⟩, by (repeat' (first | (with_reducible exact Below.refl _ _) | (with_reducible assumption) | (with_reducible refine Below.alloc ?_ ?_ _) | (with_reducible refine Below.drew ?_) | (with_reducible refine below_dn ?_) | (with_reducible refine Below.setCell ?_ ?_ _) | (with_reducible exact Nat.le_refl _) | omega | (simp only [World.size_alloc, World.size_setCell, World.size_drew]; omega) | (simp; omega) | (simp; done)))⟩
  by_cases P6 : A < S
  case neg =>
    rw [P1] at PC
    have q : S ≤ A := by omega
    have NO := Lib.hid (show ¬ Ok W S A l from fun h => by have := h.a1; omega)
    clear P6
    go_enter Tryd.func12, Tryd.ntmps12
    go_wp2_with fail
    refine (PC.out _).mono ?_
    rintro e w1 ⟨rfl, rfl⟩
    go_wp2
    go_ret
    exact ⟨⟨false, rfl, ⟨(fun h => by cases h), fun h => absurd h NO.out⟩⟩, by (repeat' (first | (with_reducible exact Below.refl _ _) | (with_reducible assumption) | (with_reducible refine Below.alloc ?_ ?_ _) | (with_reducible refine Below.drew ?_) | (with_reducible refine below_dn ?_) | (with_reducible refine Below.setCell ?_ ?_ _) | (with_reducible exact Nat.le_refl _) | omega | (simp only [World.size_alloc, World.size_setCell, World.size_drew]; omega) | (simp; omega) | (simp; done)))⟩
  by_cases P7 : (n : Int) = 4 * W
  case neg =>
    have p0 := pw_pos P1
    rw [P1] at PC
    obtain ⟨V, hV⟩ : ∃ V, 4 * W = V := ⟨_, rfl⟩
    have v1 : IntKind.i64.wrap (4 * W) = V := by rw [IntKind.wrap_i64]; omega
    have t7 : ((n : Int) != V) = true := bne_iff_ne.2 (by omega)
    have NO := Lib.hid (show ¬ Ok W S A l from fun h => P7 (by have := h.len; rw [HE.out] at this; exact this))
    clear P7 hV
    go_enter Tryd.func12, Tryd.ntmps12
    go_wp2_with fail
    refine (PC.out _).mono ?_
    rintro e w1 ⟨rfl, rfl⟩
    go_wp2
    go_ret
    exact ⟨⟨false, rfl, ⟨(fun h => by cases h), fun h => absurd h NO.out⟩⟩, by (repeat' (first | (with_reducible exact Below.refl _ _) | (with_reducible assumption) | (with_reducible refine Below.alloc ?_ ?_ _) | (with_reducible refine Below.drew ?_) | (with_reducible refine below_dn ?_) | (with_reducible refine Below.setCell ?_ ?_ _) | (with_reducible exact Nat.le_refl _) | omega | (simp only [World.size_alloc, World.size_setCell, World.size_drew]; omega) | (simp; omega) | (simp; done)))⟩
  have p0 := pw_pos P1
  rw [P1] at PC
  obtain ⟨V, hV⟩ : ∃ V, 4 * W = V := ⟨_, rfl⟩
  have v1 : IntKind.i64.wrap (4 * W) = V := by rw [IntKind.wrap_i64]; omega
  have v2 : 4 * W = V := hV
  have t7 : ((n : Int) != V) = false := by rw [P7, hV]; simp
  have OKA := Lib.hid (show (∀ j, j < l.length → okc A (l.getD j 0)) ↔ Ok W S A l from ⟨fun h => ⟨P1, P2, P3, P4, P5, P6, by rw [HE.out]; exact P7, h⟩, fun h => h.cells⟩)
  clear P1 P7 hV
  go_enter Tryd.func12, Tryd.ntmps12
  go_wp2_with fail
  refine (PC.out _).mono ?_
  rintro e w1 ⟨rfl, rfl⟩
  have K1 := Lib.hid (show Blk (w.alloc (.cells #[.int .i64 W, .int .i64 S, .int .i64 A, .slice a n cap] 24)) w.heap.size 24 #[.int .i64 W, .int .i64 S, .int .i64 A, .slice a n cap] from Blk.new' _ _ _ _ rfl rfl)
  have B1 := Lib.hid (show Below w.heap.size w (w.alloc (.cells #[.int .i64 W, .int .i64 S, .int .i64 A, .slice a n cap] 24)) from (Below.refl _ _).alloc (Nat.le_refl _) _)
  go_wp2
  go_loopw [4] (fun u9 wr => ∃ k : Nat, k ≤ n ∧ u9 = .int .i64 k ∧ Hid (∀ j, j < k → okc A (l.getD j 0)) ∧ Hid (Blk wr w.heap.size 24 #[.int .i64 W, .int .i64 S, .int .i64 A, .slice a n cap]) ∧ Hid (Below w.heap.size w wr)) (fun u9 _ => n - (intOf u9).toNat)
  case atStart => exact ⟨0, by omega, rfl, Lib.hid (fun j hj => absurd hj (by omega)), K1, B1⟩
  case round =>
    clear K1 B1
    obtain ⟨k, hk, rfl, ha, K1, hbe⟩ := hrel
    have c2 : wr.cell? ⟨w.heap.size, 2, none⟩ = some (.int .i64 A) := K1.out.cell 2
    have c3 : wr.cell? ⟨w.heap.size, 3, none⟩ = some (.slice a n cap) := K1.out.cell 3
    by_cases hlt : k < n
    · obtain ⟨b, off, rfl, q1⟩ := (HP.out.mono hbe.out) k (by rw [HE.out]; exact hlt)
      have NO := Lib.hid (show ¬ okc A (l.getD k 0) → ¬ Ok W S A l from fun h1 h2 => h1 (h2.cells k (by rw [HE.out]; exact hlt)))
      have YES := Lib.hid (show okc A (l.getD k 0) → ∀ j, j < k + 1 → okc A (l.getD j 0) from fun h1 j hj => by
        rcases Nat.lt_or_ge j k with h | h
        · exact ha.out j h
        · rw [show j = k by omega]; exact h1)
      obtain ⟨x, hx⟩ : ∃ x, l.getD k 0 = x := ⟨_, rfl⟩
      rw [hx] at q1 NO YES
      clear hx ha
      by_cases x0 : x < 0
      · have N2 := Lib.hid (NO.out (fun h => by have := h.1; omega))
        have d0 : decide (x < 0) = true := decide_eq_true x0
        go_wp2; go_quiet (fail); go_wp2
        go_ret
        exact ⟨⟨false, rfl, ⟨(fun h => by cases h), fun h => absurd h N2.out⟩⟩, below_dn hbe.out⟩
      have d0 : decide (x < 0) = false := decide_eq_false x0
      by_cases x1 : 15 < x
      · have N2 := Lib.hid (NO.out (fun h => by have := h.2.1; omega))
        have d1 : decide (15 < x) = true := decide_eq_true x1
        go_wp2; go_quiet (fail); go_wp2
        go_ret
        exact ⟨⟨false, rfl, ⟨(fun h => by cases h), fun h => absurd h N2.out⟩⟩, below_dn hbe.out⟩
      have d1 : decide (15 < x) = false := decide_eq_false x1
      by_cases x2 : A < x
      · have N2 := Lib.hid (NO.out (fun h => by have := h.2.2; omega))
        have d2 : decide (A < x) = true := decide_eq_true x2
        go_wp2; go_quiet (fail); go_wp2
        go_ret
        exact ⟨⟨false, rfl, ⟨(fun h => by cases h), fun h => absurd h N2.out⟩⟩, below_dn hbe.out⟩
      have d2 : decide (A < x) = false := decide_eq_false x2
      have Y2 := Lib.hid (YES.out ⟨by omega, by omega, by omega⟩)
      go_wp2; go_quiet (fail); go_wp2
      go_roundw
      case rel => exact ⟨k + 1, by omega, by go_num, Y2, Lib.hid (K1.out.drewN _), Lib.hid (below_dn hbe.out)⟩
      case measure => simp [intOf]; omega
    · have OKL := Lib.hid (OKA.out.1 fun j hj => ha.out j (by rw [HE.out] at hj; omega))
      go_wp2
      go_ret
      exact ⟨⟨true, rfl, ⟨fun _ => OKL.out, fun _ => rfl⟩⟩, hbe.out⟩
end Go.Proofs.YtmmjkhamknfhpaaDoor
