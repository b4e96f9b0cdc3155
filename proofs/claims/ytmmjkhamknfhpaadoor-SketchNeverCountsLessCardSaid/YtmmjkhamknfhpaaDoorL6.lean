/- For every width, every sample and every list of keys (nil too), the law SketchNeverCountsLess returns true, and changes nothing; the table rounds and the table of the reference hold at the call what the program text lays there (tied). -/
import Derived.Test.YtmmjkhamknfhpaaDoorZ6
import Derived.Test.YtmmjkhamknfhpaaDoorO
import Derived.Test.YtmmjkhamknfhpaaDoorV
import Derived.Test.YtmmjkhamknfhpaaDoorHO4
import Derived.Test.YtmmjkhamknfhpaaDoorHO10
import Derived.Test.YtmmjkhamknfhpaaDoorTie
import Derived.Test.YtmmjkhamknfhpaaDoorCards
import Derived.SevenTiedAt
namespace Go.Proofs.YtmmjkhamknfhpaaDoor
set_option linter.unusedVariables false
set_option linter.unusedSimpArgs false
open Go Go.ChangeShapes Go.WideShapes Go.ChangeAt Go.RowKit Go.Joins
set_option maxRecDepth 100000 in
theorem lifted6 (os : Os) (started : os.Started) (H : Type) (enc : TypeId × Value → H) :
    ReturnsInHanded {} Tryd.checked os 6 .any (fun w args => (Rows.sketchNeverCountsLessSpec.pre enc Tryd.prog Tryd.f6 [] false w args ∧ laidMetH Tryd.prog laid2 w) ∧ sizedMet enc Tryd.prog Tryd.f6 (OpenSpec.ofChange Rows.sketchNeverCountsLessSpec) false w args)
      (Rows.sketchNeverCountsLessSpec.post enc Tryd.prog Tryd.f6 false true false false) := by
  refine returnsInHanded_of_change_and (C := Tryd.checked) (X := fun w _ => laidMetH Tryd.prog laid2 w) (fun _ _ _ hh h => h.of_heap hh) own started (by kernel_rfl) Tryd.func6
    (ChangeSpec.witness_shaped (enc := enc) (C := Tryd.checked) (os := os) (X := fun w _ => laidMetH Tryd.prog laid2 w) false (World.doorLaid Tryd.prog 400 os) #[.int .u8 0, .int .u16 0, .slice none 0 0] 8 rfl (World.shaped_of_RefB (by kernel_rfl) (by kernel_rfl)) (by kernel_rfl) (by kernel_rfl) (by kernel_rfl) (door_met2 os _)) ?_
  intro W base args ds gs before hval0 hW _ _ hL _
  have hval : ∀ (j : Nat) t v, Tryd.f6.params[j]? = some t → args[j]? = some v → Value.okWide Tryd.prog W .any base t v := hval0
  have hWh := hW
  obtain ⟨p, q, hA0, hV, rfl, hfz, hnd⟩ := hW
  have hA : DataW.TrodAll enc Tryd.prog W 0 (fun _ => true) true Tryd.f6.params.toList args.toList ds p := hA0
  rw [Tryd.params6] at hA hval
  obtain ⟨v0, v1, v2, d0, d1, d2, p0, p1, p2, rfl, rfl, rfl, h0, h1, h2⟩ := trodAll_three hA
  obtain ⟨rfl, rfl⟩ := trodVars_none hV
  obtain ⟨u8, rfl, hu8⟩ := open_u8 (hval 0 5 v0 rfl rfl) h0
  obtain ⟨u16, rfl, hu16⟩ := open_u16 (hval 1 45 v1 rfl rfl) h1
  obtain ⟨a0, cp0, ss, rfl, kca, kcm, kcn, kss, kz⟩ := open_strs (hval 2 38 v2 rfl rfl) h2
  obtain ⟨hla, hlk⟩ := of_laid2 hL
  refine (never_law u8 u16 a0 cp0 ss W kss (by omega) kz hu8 hu16 hla hlk).mono fun e W' ⟨he, hb⟩ => ⟨_, he, law_post laidOut ?_ rfl Tryd.underlying4 rfl rfl rfl hWh hb⟩
  rw [Tryd.params6]
  exact fun t ht => ⟨(List.all_eq_true.1 (by kernel_rfl : [5, 45, 38].all (fun t => Tryd.prog.readableRec t) = true)) t ht, of_decide_eq_true ((List.all_eq_true.1 (by kernel_rfl : [5, 45, 38].all (fun t => decide (t < Tryd.prog.types.size)) = true)) t ht)⟩
theorem sketchNeverCountsLess_row_holds : Rows.SketchNeverCountsLessSaid :=
  OpenClaim.holds_of_wide 6 Tryd.f6 rfl rfl rfl rfl rfl rfl rfl ⟨rfl, rfl, rfl, rfl, rfl⟩ rfl rfl rfl rfl rfl (by kernel_rfl) Tryd.func6 (by kernel_rfl)
    (of_decide_eq_true (by kernel_rfl)) (by unfold Func.isWrapper; first | (rw [if_pos (by decide +kernel)]; kernel_rfl) | (rw [if_neg (by decide +kernel)]; exact ⟨rfl, rfl⟩))
    (fun os started H enc _ => lifted6 os started H enc)
theorem sketchNeverCountsLess_holds : Rows.SketchNeverCountsLessCardSaid :=
  Claim7.holds_tied_plain_at .later [] [.data, .data] true (true, "22880ed91926e151e752461aae5ee5d7fcab9f9cc8c944ae004de9e68c54a8cf") false
    sketchNeverCountsLess_row_holds (fun _ h => by cases h) (by kernel_rfl) (fun _ h => by cases h) sketchNeverCountsLess_row_tie rfl ⟨rfl, rfl⟩ (by kernel_rfl) rfl
    (fun f fn hf hfn => by
      obtain rfl : f = 6 := Option.some.inj ((show Tryd.prog.funcNamed "weirgate/weirgatelaw08.SketchNeverCountsLess" = some 6 by kernel_rfl).symm.trans hf) |>.symm
      obtain rfl : fn = Tryd.f6 := (Option.some.inj (Tryd.func6.symm.trans hfn)).symm
      exact ⟨by kernel_rfl, fun j t ht => by
        rw [Tryd.params6] at ht
        have hm : t ∈ [5, 45, 38] := by simpa using Array.mem_of_getElem? ht
        have hall : ([5, 45, 38].all fun u => !Tryd.prog.wantsStandIn u) = true := by kernel_rfl
        exact (show Tryd.prog.wantsStandIn t = false by simpa using List.all_eq_true.1 hall t hm)⟩)
    (by kernel_rfl)
#print axioms sketchNeverCountsLess_holds
end Go.Proofs.YtmmjkhamknfhpaaDoor
