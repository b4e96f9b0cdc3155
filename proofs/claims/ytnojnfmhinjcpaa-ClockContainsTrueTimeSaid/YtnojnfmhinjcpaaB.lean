import Derived.Test.YtnojnfmhinjcpaaA
import Derived.Deep.RegionWith
import Derived.StillTailTactics
namespace Go.Proofs.Ytnojnfmhinjcpaa
set_option linter.unusedVariables false
set_option linter.unusedSimpArgs false
open Go.RowKit
theorem clip_s (t : Int) (w : World) :
    Calls Try.prog 40 #[.int .i64 t] w fun e w' => e = .returned (.int .i64 (clipF t)) ∧ w' = w := (clip_any t w).mono fun _ _ h => ⟨h.1, h.2.symm⟩
theorem widen_ref' (lo hi b : Int) (w : World) (hv : 0 ≤ lo ∧ lo ≤ hi ∧ hi ≤ 1099511627776) (hb : 0 ≤ b ∧ b ≤ 1099511627776) :
    Calls Try.prog 18 #[per lo hi, .int .i64 b] w fun e w' => e = .returned (wid lo hi b) ∧ Below w.heap.size w w' := by
  go_enter Try.func18, Try.ntmps18
  go_wp2
  refine wp_region_still_tail 11 (by kernel_rfl) (by kernel_rfl) ?_
  simp only [List.take_succ_cons, List.take_zero, List.drop_succ_cons, List.drop_zero]
  show wpStill _ _ (World.drew _) _ _ _
  repeat still_step
  still_call (clip_s _ _)
  repeat still_step
  still_call (clip_s _ _)
  repeat still_step
  refine wpStill_nil ?_
  show wpList _ _ _ _ _ (World.drew _)
  go_wp2
  refine bodyPost_ret (by simp [results, Try.results18, go_sem]; try rfl) rfl ?_
  exact ⟨congrArg Ending.returned (per_ext (by unfold clipF; omega) (by unfold clipF; omega)), by (repeat' (first | (with_reducible exact Below.refl _ _) | (with_reducible assumption) | (with_reducible refine Below.alloc ?_ ?_ _) | (with_reducible refine Below.drew ?_) | (with_reducible refine below_dn ?_) | (with_reducible refine Below.setCell ?_ ?_ _) | (with_reducible exact Nat.le_refl _) | omega | (simp only [World.size_alloc, World.size_setCell, World.size_drew]; omega) | (simp; omega) | (simp; done)))⟩
end Go.Proofs.Ytnojnfmhinjcpaa
