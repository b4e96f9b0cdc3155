import Derived.Test.YtnojnfmhinjcpaaA
namespace Go.Proofs.Ytnojnfmhinjcpaa
set_option linter.unusedVariables false
set_option linter.unusedSimpArgs false
open Go.RowKit
/-- A slice of paces in memory. -/
def Paces (W : World) (b off : Nat) (ps : List (Int × Int)) : Prop :=
  ∀ k, k < ps.length → W.cell? ⟨b, off + k * 2, none⟩ = some (.int .i64 (ps.getD k (0, 0)).1) ∧ W.cell? ⟨b, off + k * 2 + 1, none⟩ = some (.int .i64 (ps.getD k (0, 0)).2)
def okPace (p : Int × Int) : Bool := decide (0 ≤ p.1 ∧ p.1 ≤ 1099511627776 ∧ -100000 ≤ p.2 ∧ p.2 ≤ 100000)
def rightB (ps : List (Int × Int)) : Bool := ps.all okPace && decide (ps.length ≤ 100)
theorem all_take_succ {α : Type} (f : α → Bool) (l : List α) (k : Nat) (z : α) (h : k < l.length) : (l.take (k + 1)).all f = ((l.take k).all f && f (l.getD k z)) := by
  rw [List.take_succ_eq_append_getElem h, List.all_append]
  simp [List.getElem?_eq_getElem h]
theorem all_false {α : Type} (f : α → Bool) (l : List α) (k : Nat) (z : α) (h : k < l.length) (hf : f (l.getD k z) = false) : l.all f = false := by
  rw [List.all_eq_false]
  refine ⟨l[k], List.getElem_mem h, ?_⟩
  rw [List.getD_eq_getElem?_getD, List.getElem?_eq_getElem h] at hf
  simpa using hf
set_option maxHeartbeats 1000000 in
theorem right_any (ps : List (Int × Int)) (b off cap : Nat) (w : World) (hp : Paces w b off ps) (hm : ps.length ≤ 9223372036854775807) :
    Calls Try.prog 45 #[.slice (some ⟨b, off, none⟩) ps.length cap] w fun e w' => e = .returned (.bool (rightB ps)) ∧ Below w.heap.size w w' := by
  have HP := Lib.hid hp; clear hp
  go_enter Try.func45, Try.ntmps45
  go_wp2
  go_loopw [7] (fun i wr => ∃ k : Nat, k ≤ ps.length ∧ i = .int .i64 k ∧ Below w.heap.size w wr ∧ Hid ((ps.take k).all okPace = true)) (fun i _ => ps.length - (intOf i).toNat)
  case atStart => exact ⟨0, by omega, rfl, Below.refl _ _, by simp [Hid]⟩
  case round =>
    obtain ⟨k, hk, rfl, hB, hall⟩ := hrel
    have hBs := hB.size
    by_cases hlt : k < ps.length
    · obtain ⟨x, y, hxy⟩ : ∃ x y, ps.getD k (0, 0) = (x, y) := ⟨_, _, rfl⟩
      have hh := HP.out k hlt
      rw [hxy] at hh
      obtain ⟨q1, q2⟩ := hh
      have g1 : wr.cell? ⟨b, off + k * 2, none⟩ = some (.int .i64 x) := by rw [hB.cell (p := ⟨b, off + k * 2, none⟩) (block_lt_of_cell q1)]; exact q1
      have g2 : wr.cell? ⟨b, off + k * 2 + 1, none⟩ = some (.int .i64 y) := by rw [hB.cell (p := ⟨b, off + k * 2 + 1, none⟩) (block_lt_of_cell q2)]; exact q2
      clear q1 q2
      have HX := Lib.hid hxy; clear hxy
      by_cases hok : 0 ≤ x ∧ x ≤ 1099511627776 ∧ -100000 ≤ y ∧ y ≤ 100000
      · have HS : Hid (okPace (ps.getD k (0, 0)) = true) := by rw [HX.out]; exact decide_eq_true hok
        obtain ⟨o1, o2, o3, o4⟩ := hok
        go_wp2
        go_roundw
        case rel => exact ⟨k + 1, by omega, by go_num, by (repeat' (first | (with_reducible exact Below.refl _ _) | (with_reducible assumption) | (with_reducible refine Below.alloc ?_ ?_ _) | (with_reducible refine Below.drew ?_) | (with_reducible refine below_dn ?_) | (with_reducible refine Below.setCell ?_ ?_ _) | (with_reducible exact Nat.le_refl _) | omega | (simp only [World.size_alloc, World.size_setCell, World.size_drew]; omega) | (simp; omega) | (simp; done))), by show _ = _; rw [all_take_succ okPace ps k (0, 0) hlt, hall.out, HS.out]; rfl⟩
        case measure => simp [intOf]; omega
      · have HS : Hid (rightB ps = false) := by
          have : okPace (ps.getD k (0, 0)) = false := by rw [HX.out]; exact decide_eq_false hok
          unfold rightB; show _ = _; rw [all_false okPace ps k (0, 0) hlt this]; rfl
        have HO := Lib.hid hok; clear hok
        go_wp2
        all_goals first
          | (go_ret; exact ⟨ret_bool HS.out.symm, by (repeat' (first | (with_reducible exact Below.refl _ _) | (with_reducible assumption) | (with_reducible refine Below.alloc ?_ ?_ _) | (with_reducible refine Below.drew ?_) | (with_reducible refine below_dn ?_) | (with_reducible refine Below.setCell ?_ ?_ _) | (with_reducible exact Nat.le_refl _) | omega | (simp only [World.size_alloc, World.size_setCell, World.size_drew]; omega) | (simp; omega) | (simp; done)))⟩)
          | (exfalso; have := HO.out; omega)
    · obtain rfl : k = ps.length := by omega
      have HS : Hid (rightB ps = decide (ps.length ≤ 100)) := by
        have := hall.out; rw [List.take_length] at this
        unfold rightB; show _ = _; rw [this]; rfl
      go_wp2
      go_ret
      exact ⟨ret_bool (by rw [HS.out]; apply decide_eq_decide.mpr; omega), hB⟩
end Go.Proofs.Ytnojnfmhinjcpaa
