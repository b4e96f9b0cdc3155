/- For every greatest length of leases and every list of acts (nil too), the law LeaseDeadlinesHold returns true, and changes nothing; the table rounds holds at the call what the program text lays there (tied). -/
import Derived.Test.YteblnmhaohbkkaaDoorRD6
import Derived.Test.YteblnmhaohbkkaaDoorRF1
import Derived.Test.YteblnmhaohbkkaaDoorRSLV
import Derived.Test.YteblnmhaohbkkaaDoorTie
import Derived.Test.YteblnmhaohbkkaaDoorCards
import Derived.SevenTiedAt
namespace Go.Proofs.YteblnmhaohbkkaaDoor
set_option linter.unusedVariables false
set_option linter.unusedSimpArgs false
set_option linter.unusedSectionVars false
open Go Go.ChangeShapes Go.WideShapes Go.ChangeAt Go.RowKit Go.Joins Hs
set_option maxRecDepth 100000 in
theorem lifted4 (os : Os) (started : os.Started) (H : Type) (enc : TypeId × Value → H) :
    ReturnsInHanded {} Tryd.checked os 4 .any (fun w args => (Rows.leaseDeadlinesHoldSpec.pre enc Tryd.prog Tryd.f4 [] false w args ∧ laidMetH Tryd.prog laid1 w) ∧ sizedMet enc Tryd.prog Tryd.f4 (OpenSpec.ofChange Rows.leaseDeadlinesHoldSpec) false w args)
      (Rows.leaseDeadlinesHoldSpec.post enc Tryd.prog Tryd.f4 false true false false) := by
  refine returnsInHanded_of_change_and (C := Tryd.checked) (X := fun w _ => laidMetH Tryd.prog laid1 w) (fun _ _ _ hh h => h.of_heap hh) own started (by kernel_rfl) Tryd.func4
    (ChangeSpec.witness_shaped (enc := enc) (C := Tryd.checked) (os := os) (X := fun w _ => laidMetH Tryd.prog laid1 w) false (World.doorLaid Tryd.prog 400 os) #[.int .u16 0, .slice none 0 0] 8 rfl (World.shaped_of_RefB (by kernel_rfl) (by kernel_rfl)) (by kernel_rfl) (by kernel_rfl) (by kernel_rfl) (door_met1 os _)) ?_
  intro W base args ds gs before hval0 hW _ _ hL _
  have hval : ∀ (j : Nat) t v, Tryd.f4.params[j]? = some t → args[j]? = some v → Value.okWide Tryd.prog W .any base t v := hval0
  have hWh := hW
  obtain ⟨p, q, hA0, hV, rfl, hfz, hnd⟩ := hW
  have hA : DataW.TrodAll enc Tryd.prog W 0 (fun _ => true) true Tryd.f4.params.toList args.toList ds p := hA0
  rw [Tryd.params4] at hA hval
  obtain ⟨v0, v1, d0, d1, p0, p1, rfl, rfl, rfl, h0, h1⟩ := trodAll_two hA
  obtain ⟨rfl, rfl⟩ := trodVars_none hV
  obtain ⟨most, rfl, m1, m2⟩ := Am.open_u16 (hval 0 64 v0 rfl rfl) h0
  obtain ⟨aa, ca, l, rfl, hp, hc, hq⟩ := Am.open_acts (hval 1 65 v1 rfl rfl) h1
  have hla := of_laid1 hL
  refine (Am.law4 most aa ca l W ⟨m1, m2⟩ hp hc hq hla).mono fun e W' ⟨he, hb⟩ => ⟨_, he, law_post laidOut ?_ rfl Tryd.underlying4 rfl rfl rfl hWh hb⟩
  rw [Tryd.params4]
  exact fun t ht => ⟨(List.all_eq_true.1 (by kernel_rfl : [64, 65].all (fun t => Tryd.prog.readableRec t) = true)) t ht, of_decide_eq_true ((List.all_eq_true.1 (by kernel_rfl : [64, 65].all (fun t => decide (t < Tryd.prog.types.size)) = true)) t ht)⟩
theorem leaseDeadlinesHold_row_holds : Rows.LeaseDeadlinesHoldSaid :=
  OpenClaim.holds_of_wide 4 Tryd.f4 rfl rfl rfl rfl rfl rfl rfl ⟨rfl, rfl, rfl, rfl, rfl⟩ rfl rfl rfl rfl rfl (by kernel_rfl) Tryd.func4 (by kernel_rfl)
    (of_decide_eq_true (by kernel_rfl)) (by unfold Func.isWrapper; first | (rw [if_pos (by decide +kernel)]; kernel_rfl) | (rw [if_neg (by decide +kernel)]; exact ⟨rfl, rfl⟩))
    (fun os started H enc _ => lifted4 os started H enc)
theorem leaseDeadlinesHold_holds : Rows.LeaseDeadlinesHoldCardSaid :=
  Claim7.holds_tied_plain_at .later [] [.data] true (true, "f8e2b6d5db976d2b85982ac41b63eaec06be9f38586daa49d70451526b4b3b54") false
    leaseDeadlinesHold_row_holds (fun _ h => by cases h) (by kernel_rfl) (fun _ h => by cases h) leaseDeadlinesHold_row_tie rfl ⟨rfl, rfl⟩ (by kernel_rfl) rfl
    (fun f fn hf hfn => by
      obtain rfl : f = 4 := Option.some.inj ((show Tryd.prog.funcNamed "weirgate/weirgatelaw30.LeaseDeadlinesHold" = some 4 by kernel_rfl).symm.trans hf) |>.symm
      obtain rfl : fn = Tryd.f4 := (Option.some.inj (Tryd.func4.symm.trans hfn)).symm
      exact ⟨by kernel_rfl, fun j t ht => by
        rw [Tryd.params4] at ht
        have hm : t ∈ [64, 65] := by simpa using Array.mem_of_getElem? ht
        have hall : ([64, 65].all fun u => !Tryd.prog.wantsStandIn u) = true := by kernel_rfl
        exact (show Tryd.prog.wantsStandIn t = false by simpa using List.all_eq_true.1 hall t hm)⟩)
    (by kernel_rfl)
#print axioms leaseDeadlinesHold_holds
end Go.Proofs.YteblnmhaohbkkaaDoor
