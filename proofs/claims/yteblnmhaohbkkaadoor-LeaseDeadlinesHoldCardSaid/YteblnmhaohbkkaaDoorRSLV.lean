import Derived.Test.YteblnmhaohbkkaaDoorRHV
import Derived.Test.YteblnmhaohbkkaaDoorRHNN
import Derived.Test.YteblnmhaohbkkaaDoorRows
namespace Go.Proofs.YteblnmhaohbkkaaDoor
set_option linter.unusedVariables false
set_option linter.unusedSimpArgs false
set_option linter.unusedSectionVars false
open Go.ChangeShapes Go.WideShapes Go.ChangeAt Go.RowKit
namespace Hs
theorem gRounds : Tryd.prog.globalNamed "weirgate/hash.rounds" = some 0 := by kernel_rfl
theorem tRounds : (Tryd.prog.globals[0]?).map (·.type) = some 159 := by kernel_rfl
def laid1 : List (String × DataW Unit) := [("weirgate/hash.rounds", Rows.laid_weirgate_hash_rounds)]
def laid2 : List (String × DataW Unit) := [("weirgate/weirgateref02.constants", Rows.laid_weirgate_weirgateref02_constants), ("weirgate/hash.rounds", Rows.laid_weirgate_hash_rounds)]
theorem of_laid1 {W : World} (h : laidMetH Tryd.prog laid1 W) : LaidC W := by
  rw [MakeChecks.laidMetH_plain _ _ _ (by kernel_rfl)] at h
  have h2 : Lib.VarReads Tryd.prog W "weirgate/hash.rounds" (.agg ((KS.map fun (n : Nat) => (n : Int)).map fun z => .lit (.int .u32 z))) := Lib.laidMet.reads h (.head _)
  exact ⟨fun k hk => by rw [var_ints h2 gRounds tRounds Tryd.underlying159 Tryd.underlying131 (by kernel_rfl) k hk, zRounds_is k]⟩
theorem door_met1 (os : Os) (args : Array Value) : laidMetH Tryd.prog laid1 ((World.doorLaid Tryd.prog 400 os).forCall (fun _ _ => 0) ⟨#[], args, []⟩).memory :=
  laidMetH_of_parts3 (fuel := 8) (laidMet_of_run' 8 (by kernel_rfl) (by kernel_rfl)) (by kernel_rfl) (by kernel_rfl)
end Hs
end Go.Proofs.YteblnmhaohbkkaaDoor
