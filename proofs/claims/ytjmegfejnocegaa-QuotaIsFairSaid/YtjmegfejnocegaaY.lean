/- The examples of the chapter (sanity). -/
import Derived.Test.YtjmegfejnocegaaX
import Derived.Test.YtjmegfejnocegaaV
namespace Go.Proofs.Ytjmegfejnocegaa
set_option linter.unusedVariables false
set_option linter.unusedSimpArgs false
open Go.RowKit
def exL : List Sh := [(1, 10), (1, 3), (2, 20)]
theorem exL_ok : OkS exL := ((vS_iff exL).1 (by decide)).1
theorem lev16 : IsLev 16 exL 4 := ⟨by decide, by decide, by decide, Or.inr (by decide)⟩
theorem lev100 : IsLev 100 exL 1099511627776 := ⟨by decide, by decide, by decide, Or.inl rfl⟩
theorem fair16 : fairC 16 4 exL = [5, 3, 8] := by decide
def exA : List Ac := [(1, 1, 15), (2, 1, 5)]
theorem exA_ok : OkA exA := by decide
theorem levA : IsLev 20 (wantsL exA 1 4) 11 := ⟨by decide, by decide, by decide, Or.inr (by decide)⟩
theorem levB : IsLev 20 (wantsL exA 0 1) 15 := ⟨by decide, by decide, by decide, Or.inr (by decide)⟩
theorem victA {r : Int × Int} (h : VictR 20 exA 2 4 r) : r = (1, 0) := by
  have h1 : VictR 20 exA 2 4 (lateV exA (fairC 20 11 (wantsL exA (posA exA 2) 4)) (posA exA 2) 4) := VictR.late (by decide) levA
  rw [h.uniq exA_ok h1]
  decide
theorem victB {r : Int × Int} (h : VictR 20 exA 1 1 r) : r = (0, 160) := by
  have h1 : VictR 20 exA 1 1 (lateV exA (fairC 20 15 (wantsL exA (posA exA 1) 1)) (posA exA 1) 1) := VictR.late (by decide) levB
  rw [h.uniq exA_ok h1]
  decide
theorem c_open1 (W : World) : Calls Try.prog 22 #[.slice none 0 0, .int .i64 2, .int .i64 1] W fun e w' => ∃ b c, e = .returned (.tuple #[.slice b 1 c, .int .i64 0]) ∧ AcA w' b [(2, 1, 0)] ∧ Below W.heap.size W w' := by
  have h := open_any none 0 [] 2 1 W (RowsA.nil _ _ _ _) (by decide)
  unfold GivesA at h
  rw [show openL [] 2 1 = [(2, 1, 0)] by decide, show openE [] 2 1 = 0 by decide] at h
  exact h
theorem c_open2 (W : World) (b : Option Addr) (c : Nat) (ha : AcA W b [(2, 1, 0)]) : Calls Try.prog 22 #[.slice b 1 c, .int .i64 1, .int .i64 1] W fun e w' => ∃ b c, e = .returned (.tuple #[.slice b 2 c, .int .i64 0]) ∧ AcA w' b [(1, 1, 0), (2, 1, 0)] ∧ Below W.heap.size W w' := by
  have h := open_any b c [(2, 1, 0)] 1 1 W ha (by decide)
  unfold GivesA at h
  rw [show openL [(2, 1, 0)] 1 1 = [(1, 1, 0), (2, 1, 0)] by decide, show openE [(2, 1, 0)] 1 1 = 0 by decide] at h
  exact h
theorem c_use1 (W : World) (b : Option Addr) (c : Nat) (ha : AcA W b [(1, 1, 0), (2, 1, 0)]) : Calls Try.prog 24 #[.slice b 2 c, .int .i64 1, .int .i64 15] W fun e w' => ∃ b c, e = .returned (.tuple #[.slice b 2 c, .int .i64 0]) ∧ AcA w' b [(1, 1, 15), (2, 1, 0)] ∧ Below W.heap.size W w' := by
  have h := use_any b c [(1, 1, 0), (2, 1, 0)] 1 15 W ha (by decide)
  unfold GivesA at h
  rw [show useLL [(1, 1, 0), (2, 1, 0)] 1 15 = [(1, 1, 15), (2, 1, 0)] by decide, show useE [(1, 1, 0), (2, 1, 0)] 1 15 = 0 by decide] at h
  exact h
theorem c_use2 (W : World) (b : Option Addr) (c : Nat) (ha : AcA W b [(1, 1, 15), (2, 1, 0)]) : Calls Try.prog 24 #[.slice b 2 c, .int .i64 2, .int .i64 5] W fun e w' => ∃ b c, e = .returned (.tuple #[.slice b 2 c, .int .i64 0]) ∧ AcA w' b exA ∧ Below W.heap.size W w' := by
  have h := use_any b c [(1, 1, 15), (2, 1, 0)] 2 5 W ha (by decide)
  unfold GivesA at h
  rw [show useLL [(1, 1, 15), (2, 1, 0)] 2 5 = exA by decide, show useE [(1, 1, 15), (2, 1, 0)] 2 5 = 0 by decide] at h
  exact h
theorem c_vict1 (W : World) (b : Option Addr) (c : Nat) (ha : AcA W b exA) : Calls Try.prog 29 #[.int .i64 20, .slice b 2 c, .int .i64 2, .int .i64 4] W fun e w' => e = .returned (.tuple #[.int .i64 1, .int .i64 0]) ∧ Below W.heap.size W w' := by
  refine (victim_any 20 b c exA 2 4 W ha exA_ok (by decide) (by decide)).mono ?_
  rintro e w' ⟨r, rfl, hr, hb⟩
  obtain rfl := victA hr
  exact ⟨rfl, hb⟩
theorem c_vict2 (W : World) (b : Option Addr) (c : Nat) (ha : AcA W b exA) : Calls Try.prog 29 #[.int .i64 20, .slice b 2 c, .int .i64 1, .int .i64 1] W fun e w' => e = .returned (.tuple #[.int .i64 0, .int .i64 160]) ∧ Below W.heap.size W w' := by
  refine (victim_any 20 b c exA 1 1 W ha exA_ok (by decide) (by decide)).mono ?_
  rintro e w' ⟨r, rfl, hr, hb⟩
  obtain rfl := victB hr
  exact ⟨rfl, hb⟩
theorem c_acc (W : World) (b : Option Addr) (c : Nat) (ha : AcA W b exA) : Calls Try.prog 20 #[.slice b 2 c] W fun e w' => e = .returned (.bool true) ∧ Below W.heap.size W w' := by
  have h := accounts_any b c exA W ha (by decide)
  rw [show vA exA = true by decide] at h
  exact h
theorem c_tot (W : World) (b : Option Addr) (c : Nat) (ha : AcA W b exA) : Calls Try.prog 27 #[.slice b 2 c] W fun e w' => e = .returned (.int .i64 20) ∧ Below W.heap.size W w' := by
  have h := total_any b c exA W ha exA_ok
  rw [show used exA = 20 by decide] at h
  exact h
theorem c_lev1 (W : World) (g : Nat) (ha : ShA W (some ⟨g, 0, none⟩) exL) : Calls Try.prog 13 #[.int .i64 16, .slice (some ⟨g, 0, none⟩) 3 3] W fun e w' => e = .returned (.int .i64 4) ∧ Below W.heap.size W w' := by
  refine (level_any 16 (some ⟨g, 0, none⟩) 3 exL W ha exL_ok (by decide) (by decide)).mono ?_
  rintro e w' ⟨n, rfl, hn, hb⟩
  obtain rfl := hn.uniq exL_ok lev16
  exact ⟨rfl, hb⟩
theorem c_lev2 (W : World) (g : Nat) (ha : ShA W (some ⟨g, 0, none⟩) exL) : Calls Try.prog 13 #[.int .i64 100, .slice (some ⟨g, 0, none⟩) 3 3] W fun e w' => e = .returned (.int .i64 1099511627776) ∧ Below W.heap.size W w' := by
  refine (level_any 100 (some ⟨g, 0, none⟩) 3 exL W ha exL_ok (by decide) (by decide)).mono ?_
  rintro e w' ⟨n, rfl, hn, hb⟩
  have e := hn.uniq exL_ok lev100
  rw [e]
  exact ⟨rfl, hb⟩
theorem c_fair (W : World) (g : Nat) (ha : ShA W (some ⟨g, 0, none⟩) exL) : Calls Try.prog 16 #[.int .i64 16, .slice (some ⟨g, 0, none⟩) 3 3] W fun e w' => ∃ g, e = .returned (.slice (some ⟨g, 0, none⟩) 3 3) ∧ IntsA w' (some ⟨g, 0, none⟩) [5, 3, 8] ∧ Below W.heap.size W w' := by
  refine (fair_any 16 (some ⟨g, 0, none⟩) 3 exL W ha exL_ok (by decide) (by decide) (by decide)).mono ?_
  rintro e w' ⟨n, g, rfl, hn, -, hr, hb⟩
  obtain rfl := hn.uniq exL_ok lev16
  rw [fair16] at hr
  exact ⟨g, rfl, hr.ints, hb⟩
theorem c_exp (W : World) (g k : Nat) (x y z : Int) (v : Bool) (ha : ShA W (some ⟨g, 0, none⟩) exL) (hk : Blk W k 3 #[.int .i64 x, .int .i64 y, .int .i64 z]) (hv : exB 16 exL [x, y, z] = v) : Calls Try.prog 18 #[.int .i64 16, .slice (some ⟨g, 0, none⟩) 3 3, .slice (some ⟨k, 0, none⟩) 3 3] W fun e w' => e = .returned (.bool v) ∧ Below W.heap.size W w' := by
  have hi : IntsA W (some ⟨k, 0, none⟩) [x, y, z] := fun j hj => ⟨k, 0, rfl, by
    rw [hk.cell]
    match j, hj with
    | 0, _ => rfl
    | 1, _ => rfl
    | 2, _ => rfl
    | j + 3, hj => simp at hj; omega⟩
  have h := explains_any 16 (some ⟨g, 0, none⟩) (some ⟨k, 0, none⟩) 3 3 exL [x, y, z] W ha hi exL_ok (by decide) (by simp) (by decide) (by decide)
  rw [hv] at h
  exact h
theorem c_same (W : World) (g k : Nat) (ha : IntsA W (some ⟨g, 0, none⟩) [5, 3, 8]) (hk : Blk W k 3 #[.int .i64 5, .int .i64 3, .int .i64 8]) : Calls Try.prog 15 #[.slice (some ⟨g, 0, none⟩) 3 3, .slice (some ⟨k, 0, none⟩) 3 3] W fun e w' => e = .returned (.bool true) ∧ Below W.heap.size W w' := by
  have hi : IntsA W (some ⟨k, 0, none⟩) [5, 3, 8] := fun j hj => ⟨k, 0, rfl, by
    rw [hk.cell]
    match j, hj with
    | 0, _ => rfl
    | 1, _ => rfl
    | 2, _ => rfl
    | j + 3, hj => simp at hj; omega⟩
  have h := same_any (some ⟨g, 0, none⟩) (some ⟨k, 0, none⟩) 3 3 [5, 3, 8] [5, 3, 8] W ha hi (by simp) (by simp)
  rw [eqI_self] at h
  exact h
theorem c_val (W : World) (g : Nat) (ha : ShA W (some ⟨g, 0, none⟩) exL) : Calls Try.prog 10 #[.slice (some ⟨g, 0, none⟩) 3 3] W fun e w' => e = .returned (.bool true) ∧ Below W.heap.size W w' := by
  have h := valid_any (some ⟨g, 0, none⟩) 3 exL W ha (by decide)
  rw [show vS exL = true by decide] at h
  exact h
end Go.Proofs.Ytjmegfejnocegaa
