/- What the laid variables give: one, or two with the reference's table. -/
import Derived.Test.YteblnmhaohbkkaaGreatDoorQHV
import Derived.Test.YteblnmhaohbkkaaGreatDoorQHNN
import Derived.Test.YteblnmhaohbkkaaGreatDoorRows
namespace Go.Proofs.YteblnmhaohbkkaaGreatDoor
set_option linter.unusedVariables false
set_option linter.unusedSimpArgs false
open Go.ChangeShapes Go.WideShapes Go.ChangeAt Go.RowKit
namespace Hs
theorem gRounds : Tryz.prog.globalNamed "weirgate/hash.rounds" = some 0 := by kernel_rfl
theorem gConst : Tryz.prog.globalNamed "weirgate/weirgateref02.constants" = some 1 := by kernel_rfl
theorem tRounds : (Tryz.prog.globals[0]?).map (·.type) = some 147 := by kernel_rfl
theorem tConst : (Tryz.prog.globals[1]?).map (·.type) = some 147 := by kernel_rfl
def laid1 : List (String × DataW Unit) := [("weirgate/hash.rounds", Rows.laid_weirgate_hash_rounds)]
def laid2 : List (String × DataW Unit) := [("weirgate/weirgateref02.constants", Rows.laid_weirgate_weirgateref02_constants), ("weirgate/hash.rounds", Rows.laid_weirgate_hash_rounds)]
theorem of_laid1 {W : World} (h : laidMetH Tryz.prog laid1 W) : LaidC W := by
  rw [MakeChecks.laidMetH_plain _ _ _ (by kernel_rfl)] at h
  have h2 : Lib.VarReads Tryz.prog W "weirgate/hash.rounds" (.agg ((KS.map fun (n : Nat) => (n : Int)).map fun z => .lit (.int .u32 z))) := Lib.laidMet.reads h (.head _)
  exact ⟨fun k hk => by rw [var_ints h2 gRounds tRounds Tryz.underlying147 Tryz.underlying122 (by kernel_rfl) k hk, zRounds_is k]⟩
theorem of_laid2 {W : World} (h : laidMetH Tryz.prog laid2 W) : LaidC W ∧ LaidK W := by
  rw [MakeChecks.laidMetH_plain _ _ _ (by kernel_rfl)] at h
  have h1 : Lib.VarReads Tryz.prog W "weirgate/weirgateref02.constants" (.agg ((KS.map fun (n : Nat) => (n : Int)).map fun z => .lit (.int .u32 z))) := Lib.laidMet.reads h (.head _)
  have h2 : Lib.VarReads Tryz.prog W "weirgate/hash.rounds" (.agg ((KS.map fun (n : Nat) => (n : Int)).map fun z => .lit (.int .u32 z))) := Lib.laidMet.reads h (.tail _ (.head _))
  exact ⟨⟨fun k hk => by rw [var_ints h2 gRounds tRounds Tryz.underlying147 Tryz.underlying122 (by kernel_rfl) k hk, zRounds_is k]⟩, ⟨fun k hk => by rw [var_ints h1 gConst tConst Tryz.underlying147 Tryz.underlying122 (by kernel_rfl) k hk, zRounds_is k]⟩⟩
theorem door_met1 (os : Os) (args : Array Value) : laidMetH Tryz.prog laid1 ((World.doorLaid Tryz.prog 400 os).forCall (fun _ _ => 0) ⟨#[], args, []⟩).memory :=
  laidMetH_of_parts3 (fuel := 8) (laidMet_of_run' 8 (by kernel_rfl) (by kernel_rfl)) (by kernel_rfl) (by kernel_rfl)
theorem door_met2 (os : Os) (args : Array Value) : laidMetH Tryz.prog laid2 ((World.doorLaid Tryz.prog 400 os).forCall (fun _ _ => 0) ⟨#[], args, []⟩).memory :=
  laidMetH_of_parts3 (fuel := 8) (laidMet_of_run' 8 (by kernel_rfl) (by kernel_rfl)) (by kernel_rfl) (by kernel_rfl)
end Hs
end Go.Proofs.YteblnmhaohbkkaaGreatDoor
