/- For whatever a site knows, every clock and all readings, the law LeaseWorthIsExact returns true, and changes nothing; the table rounds holds at the call what the program text lays there (tied). -/
import Derived.Test.YteblnmhaohbkkaaDoorQLeX
import Derived.Test.YteblnmhaohbkkaaDoorQLeF
import Derived.Test.YteblnmhaohbkkaaDoorQSLV
import Derived.Test.YteblnmhaohbkkaaDoorTie
import Derived.Test.YteblnmhaohbkkaaDoorCards
import Derived.SevenTiedAt
namespace Go.Proofs.YteblnmhaohbkkaaDoor
set_option linter.unusedVariables false
set_option linter.unusedSimpArgs false
open Go Go.ChangeShapes Go.WideShapes Go.ChangeAt Go.RowKit Go.Joins Hs
set_option maxRecDepth 100000 in
theorem lifted5 (os : Os) (started : os.Started) (H : Type) (enc : TypeId × Value → H) :
    ReturnsInHanded {} Tryd.checked os 5 .any (fun w args => (Rows.leaseWorthIsExactSpec.pre enc Tryd.prog Tryd.f5 [] false w args ∧ laidMetH Tryd.prog laid1 w) ∧ sizedMet enc Tryd.prog Tryd.f5 (OpenSpec.ofChange Rows.leaseWorthIsExactSpec) false w args)
      (Rows.leaseWorthIsExactSpec.post enc Tryd.prog Tryd.f5 false true false false) := by
  refine returnsInHanded_of_change_and (C := Tryd.checked) (X := fun w _ => laidMetH Tryd.prog laid1 w) (fun _ _ _ hh h => h.of_heap hh) own started (by kernel_rfl) Tryd.func5
    (ChangeSpec.witness_shaped (enc := enc) (C := Tryd.checked) (os := os) (X := fun w _ => laidMetH Tryd.prog laid1 w) false (World.doorLaid Tryd.prog 400 os) #[.agg #[.int .i64 0, .int .i64 0, .int .i64 0, .int .i64 0, .int .i64 0, .int .i64 0, .int .u8 0, .int .u8 0, .int .u8 0, .int .u8 0, .int .u8 0, .int .u8 0, .int .u8 0, .int .u8 0, .int .u8 0, .int .u8 0, .int .u8 0, .int .u8 0, .int .u8 0, .int .u8 0, .int .u8 0, .int .u8 0], .agg #[.int .i64 0, .int .i64 0, .int .i64 0, .int .i64 0], .int .i64 0, .int .i64 0] 8 rfl (World.shaped_of_RefB (by kernel_rfl) (by kernel_rfl)) (by kernel_rfl) (by kernel_rfl) (by kernel_rfl) (door_met1 os _)) ?_
  intro W base args ds gs before hval0 hW _ _ hL _
  have hval : ∀ (j : Nat) t v, Tryd.f5.params[j]? = some t → args[j]? = some v → Value.okWide Tryd.prog W .any base t v := hval0
  have hWh := hW
  obtain ⟨p, q, hA0, hV, rfl, hfz, hnd⟩ := hW
  have hA : DataW.TrodAll enc Tryd.prog W 0 (fun _ => true) true Tryd.f5.params.toList args.toList ds p := hA0
  rw [Tryd.params5] at hA hval
  obtain ⟨v0, v1, v2, v3, d0, d1, d2, d3, p0, p1, p2, p3, rfl, rfl, rfl, h0, h1, h2, h3⟩ := trodAll_four hA
  obtain ⟨rfl, rfl⟩ := trodVars_none hV
  obtain ⟨st, he, ls, le, lu, lr, S, rfl, hS⟩ := Le.open_held (hval 0 67 v0 rfl rfl) h0
  obtain ⟨cl, clo, chi, cd, rfl⟩ := Le.open_clock (hval 1 80 v1 rfl rfl) h1
  obtain ⟨x, rfl, x1, x2⟩ := open_num (hval 2 3 v2 rfl rfl) h2
  obtain ⟨later, rfl, later1, later2⟩ := open_num (hval 3 3 v3 rfl rfl) h3
  have hla := of_laid1 hL
  refine (Le.law5 st he ls le lu lr S cl clo chi cd x later W hS hla).mono fun e W' ⟨he, hb⟩ => ⟨_, he, law_post laidOut ?_ rfl Tryd.underlying4 rfl rfl rfl hWh hb⟩
  rw [Tryd.params5]
  exact fun t ht => ⟨(List.all_eq_true.1 (by kernel_rfl : [67, 80, 3, 3].all (fun t => Tryd.prog.readableRec t) = true)) t ht, of_decide_eq_true ((List.all_eq_true.1 (by kernel_rfl : [67, 80, 3, 3].all (fun t => decide (t < Tryd.prog.types.size)) = true)) t ht)⟩
theorem leaseWorthIsExact_row_holds : Rows.LeaseWorthIsExactSaid :=
  OpenClaim.holds_of_wide 5 Tryd.f5 rfl rfl rfl rfl rfl rfl rfl ⟨rfl, rfl, rfl, rfl, rfl⟩ rfl rfl rfl rfl rfl (by kernel_rfl) Tryd.func5 (by kernel_rfl)
    (of_decide_eq_true (by kernel_rfl)) (by unfold Func.isWrapper; first | (rw [if_pos (by decide +kernel)]; kernel_rfl) | (rw [if_neg (by decide +kernel)]; exact ⟨rfl, rfl⟩))
    (fun os started H enc _ => lifted5 os started H enc)
theorem leaseWorthIsExact_holds : Rows.LeaseWorthIsExactCardSaid :=
  Claim7.holds_tied_plain_at .later [] [.data] true (true, "f8e2b6d5db976d2b85982ac41b63eaec06be9f38586daa49d70451526b4b3b54") false
    leaseWorthIsExact_row_holds (fun _ h => by cases h) (by kernel_rfl) (fun _ h => by cases h) leaseWorthIsExact_row_tie rfl ⟨rfl, rfl⟩ (by kernel_rfl) rfl
    (fun f fn hf hfn => by
      obtain rfl : f = 5 := Option.some.inj ((show Tryd.prog.funcNamed "weirgate/weirgatelaw30.LeaseWorthIsExact" = some 5 by kernel_rfl).symm.trans hf) |>.symm
      obtain rfl : fn = Tryd.f5 := (Option.some.inj (Tryd.func5.symm.trans hfn)).symm
      exact ⟨by kernel_rfl, fun j t ht => by
        rw [Tryd.params5] at ht
        have hm : t ∈ [67, 80, 3, 3] := by simpa using Array.mem_of_getElem? ht
        have hall : ([67, 80, 3, 3].all fun u => !Tryd.prog.wantsStandIn u) = true := by kernel_rfl
        exact (show Tryd.prog.wantsStandIn t = false by simpa using List.all_eq_true.1 hall t hm)⟩)
    (by kernel_rfl)
#print axioms leaseWorthIsExact_holds
end Go.Proofs.YteblnmhaohbkkaaDoor
