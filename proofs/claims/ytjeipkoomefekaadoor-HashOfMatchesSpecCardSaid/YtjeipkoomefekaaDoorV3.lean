/- What three laid variables give: the cells of the tables, the reference's too. -/
import Derived.Test.YtjeipkoomefekaaDoorV
import Derived.Test.YtjeipkoomefekaaDoorNN
namespace Go.Proofs.YtjeipkoomefekaaDoor
set_option linter.unusedVariables false
set_option linter.unusedSimpArgs false
open Go.ChangeShapes Go.WideShapes Go.ChangeAt Go.RowKit
theorem gConst : Tryd.prog.globalNamed "weirgate/weirgateref02.constants" = some 0 := by kernel_rfl
theorem tConst : (Tryd.prog.globals[0]?).map (·.type) = some 75 := by kernel_rfl
def laid3 : List (String × DataW Unit) := [("weirgate/weirgateref02.constants", Rows.laid_weirgate_weirgateref02_constants), ("weirgate/hash.crcSteps", Rows.laid_weirgate_hash_crcSteps), ("weirgate/hash.rounds", Rows.laid_weirgate_hash_rounds)]
theorem of_laid3 {W : World} (h : laidMetH Tryd.prog laid3 W) : LaidC W ∧ LaidK W := by
  rw [MakeChecks.laidMetH_plain _ _ _ (by kernel_rfl)] at h
  have h0 : Lib.VarReads Tryd.prog W "weirgate/weirgateref02.constants" (.agg ((KS.map fun (n : Nat) => (n : Int)).map fun z => .lit (.int .u32 z))) := Lib.laidMet.reads h (.head _)
  have h1 : Lib.VarReads Tryd.prog W "weirgate/hash.crcSteps" (.agg (zSteps.map fun z => .lit (.int .u64 z))) := Lib.laidMet.reads h (.tail _ (.head _))
  have h2 : Lib.VarReads Tryd.prog W "weirgate/hash.rounds" (.agg ((KS.map fun (n : Nat) => (n : Int)).map fun z => .lit (.int .u32 z))) := Lib.laidMet.reads h (.tail _ (.tail _ (.head _)))
  refine ⟨⟨fun k hk => ?_, fun k hk => ?_⟩, ⟨fun k hk => ?_⟩⟩
  · rw [var_ints h1 gSteps tSteps Tryd.underlying82 Tryd.underlying28 (by kernel_rfl) k hk, zSteps_is k hk]
  · rw [var_ints h2 gRounds tRounds Tryd.underlying75 Tryd.underlying49 (by kernel_rfl) k hk, zRounds_is k]
  · rw [var_ints h0 gConst tConst Tryd.underlying75 Tryd.underlying49 (by kernel_rfl) k hk, zRounds_is k]
theorem door_met3 (os : Os) (args : Array Value) : laidMetH Tryd.prog laid3 ((World.doorLaid Tryd.prog 400 os).forCall (fun _ _ => 0) ⟨#[], args, []⟩).memory :=
  laidMetH_of_parts3 (fuel := 8) (laidMet_of_run' 8 (by kernel_rfl) (by kernel_rfl)) (by kernel_rfl) (by kernel_rfl)
end Go.Proofs.YtjeipkoomefekaaDoor
