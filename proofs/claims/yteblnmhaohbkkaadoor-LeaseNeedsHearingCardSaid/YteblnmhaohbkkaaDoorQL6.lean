/- For all grants, valid or not (their rows nil too), every byte, every period and every length, the law LeaseNeedsHearing returns true, and changes nothing; the table rounds holds at the call what the program text lays there (tied). -/
import Derived.Test.YteblnmhaohbkkaaDoorQLeKb
import Derived.Test.YteblnmhaohbkkaaDoorQLeE
import Derived.Test.YteblnmhaohbkkaaDoorQSLV
import Derived.Test.YteblnmhaohbkkaaDoorTie
import Derived.Test.YteblnmhaohbkkaaDoorCards
import Derived.SevenTiedAt
namespace Go.Proofs.YteblnmhaohbkkaaDoor
set_option linter.unusedVariables false
set_option linter.unusedSimpArgs false
open Go Go.ChangeShapes Go.WideShapes Go.ChangeAt Go.RowKit Go.Joins Hs
set_option maxRecDepth 100000 in
theorem lifted6 (os : Os) (started : os.Started) (H : Type) (enc : TypeId × Value → H) :
    ReturnsInHanded {} Tryd.checked os 6 .any (fun w args => (Rows.leaseNeedsHearingSpec.pre enc Tryd.prog Tryd.f6 [] false w args ∧ laidMetH Tryd.prog laid1 w) ∧ sizedMet enc Tryd.prog Tryd.f6 (OpenSpec.ofChange Rows.leaseNeedsHearingSpec) false w args)
      (Rows.leaseNeedsHearingSpec.post enc Tryd.prog Tryd.f6 false true false false) := by
  refine returnsInHanded_of_change_and (C := Tryd.checked) (X := fun w _ => laidMetH Tryd.prog laid1 w) (fun _ _ _ hh h => h.of_heap hh) own started (by kernel_rfl) Tryd.func6
    (ChangeSpec.witness_shaped (enc := enc) (C := Tryd.checked) (os := os) (X := fun w _ => laidMetH Tryd.prog laid1 w) false (World.doorLaid Tryd.prog 400 os) #[.agg #[.int .i64 0, .int .i64 0, .slice none 0 0], .int .u8 0, .agg #[.int .i64 0, .int .i64 0], .int .i64 0] 8 rfl (World.shaped_of_RefB (by kernel_rfl) (by kernel_rfl)) (by kernel_rfl) (by kernel_rfl) (by kernel_rfl) (door_met1 os _)) ?_
  intro W base args ds gs before hval0 hW _ _ hL _
  have hval : ∀ (j : Nat) t v, Tryd.f6.params[j]? = some t → args[j]? = some v → Value.okWide Tryd.prog W .any base t v := hval0
  have hWh := hW
  obtain ⟨p, q, hA0, hV, rfl, hfz, hnd⟩ := hW
  have hA : DataW.TrodAll enc Tryd.prog W 0 (fun _ => true) true Tryd.f6.params.toList args.toList ds p := hA0
  rw [Tryd.params6] at hA hval
  obtain ⟨v0, v1, v2, v3, d0, d1, d2, d3, p0, p1, p2, p3, rfl, rfl, rfl, h0, h1, h2, h3⟩ := trodAll_four hA
  obtain ⟨rfl, rfl⟩ := trodVars_none hV
  obtain ⟨la, mo, aa, ca, l, rfl, hp, hm, -, -⟩ := Le.open_grants (hval 0 24 v0 rfl rfl) h0
  obtain ⟨sn, rfl, sn1, sn2⟩ := Le.open_byte (hval 1 5 v1 rfl rfl) h1
  obtain ⟨lo, hi, rfl, -, -⟩ := Le.open_period (hval 2 28 v2 rfl rfl) h2
  obtain ⟨len, rfl, len1, len2⟩ := open_num (hval 3 3 v3 rfl rfl) h3
  have hla := of_laid1 hL
  refine (Le.law6 la mo aa ca l sn lo hi len W hp hm ⟨sn1, by omega⟩ hla).mono fun e W' ⟨he, hb⟩ => ⟨_, he, law_post laidOut ?_ rfl Tryd.underlying4 rfl rfl rfl hWh hb⟩
  rw [Tryd.params6]
  exact fun t ht => ⟨(List.all_eq_true.1 (by kernel_rfl : [24, 5, 28, 3].all (fun t => Tryd.prog.readableRec t) = true)) t ht, of_decide_eq_true ((List.all_eq_true.1 (by kernel_rfl : [24, 5, 28, 3].all (fun t => decide (t < Tryd.prog.types.size)) = true)) t ht)⟩
theorem leaseNeedsHearing_row_holds : Rows.LeaseNeedsHearingSaid :=
  OpenClaim.holds_of_wide 6 Tryd.f6 rfl rfl rfl rfl rfl rfl rfl ⟨rfl, rfl, rfl, rfl, rfl⟩ rfl rfl rfl rfl rfl (by kernel_rfl) Tryd.func6 (by kernel_rfl)
    (of_decide_eq_true (by kernel_rfl)) (by unfold Func.isWrapper; first | (rw [if_pos (by decide +kernel)]; kernel_rfl) | (rw [if_neg (by decide +kernel)]; exact ⟨rfl, rfl⟩))
    (fun os started H enc _ => lifted6 os started H enc)
theorem leaseNeedsHearing_holds : Rows.LeaseNeedsHearingCardSaid :=
  Claim7.holds_tied_plain_at .later [] [.data] true (true, "f8e2b6d5db976d2b85982ac41b63eaec06be9f38586daa49d70451526b4b3b54") false
    leaseNeedsHearing_row_holds (fun _ h => by cases h) (by kernel_rfl) (fun _ h => by cases h) leaseNeedsHearing_row_tie rfl ⟨rfl, rfl⟩ (by kernel_rfl) rfl
    (fun f fn hf hfn => by
      obtain rfl : f = 6 := Option.some.inj ((show Tryd.prog.funcNamed "weirgate/weirgatelaw30.LeaseNeedsHearing" = some 6 by kernel_rfl).symm.trans hf) |>.symm
      obtain rfl : fn = Tryd.f6 := (Option.some.inj (Tryd.func6.symm.trans hfn)).symm
      exact ⟨by kernel_rfl, fun j t ht => by
        rw [Tryd.params6] at ht
        have hm : t ∈ [24, 5, 28, 3] := by simpa using Array.mem_of_getElem? ht
        have hall : ([24, 5, 28, 3].all fun u => !Tryd.prog.wantsStandIn u) = true := by kernel_rfl
        exact (show Tryd.prog.wantsStandIn t = false by simpa using List.all_eq_true.1 hall t hm)⟩)
    (by kernel_rfl)
#print axioms leaseNeedsHearing_holds
end Go.Proofs.YteblnmhaohbkkaaDoor
