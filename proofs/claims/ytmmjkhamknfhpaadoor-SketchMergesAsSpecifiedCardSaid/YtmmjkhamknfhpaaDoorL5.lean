/- For all two sketches, valid or not, the law SketchMergesAsSpecified returns true, and changes nothing; the table rounds holds at the call what the program text lays there (tied). -/
import Derived.Test.YtmmjkhamknfhpaaDoorZ5
import Derived.Test.YtmmjkhamknfhpaaDoorO
import Derived.Test.YtmmjkhamknfhpaaDoorV
import Derived.Test.YtmmjkhamknfhpaaDoorTie
import Derived.Test.YtmmjkhamknfhpaaDoorCards
import Derived.SevenTiedAt
namespace Go.Proofs.YtmmjkhamknfhpaaDoor
set_option linter.unusedVariables false
set_option linter.unusedSimpArgs false
open Go Go.ChangeShapes Go.WideShapes Go.ChangeAt Go.RowKit Go.Joins
set_option maxRecDepth 100000 in
theorem lifted5 (os : Os) (started : os.Started) (H : Type) (enc : TypeId × Value → H) :
    ReturnsInHanded {} Tryd.checked os 5 .any (fun w args => (Rows.sketchMergesAsSpecifiedSpec.pre enc Tryd.prog Tryd.f5 [] false w args ∧ laidMetH Tryd.prog laid1 w) ∧ sizedMet enc Tryd.prog Tryd.f5 (OpenSpec.ofChange Rows.sketchMergesAsSpecifiedSpec) false w args)
      (Rows.sketchMergesAsSpecifiedSpec.post enc Tryd.prog Tryd.f5 false true false false) := by
  refine returnsInHanded_of_change_and (C := Tryd.checked) (X := fun w _ => laidMetH Tryd.prog laid1 w) (fun _ _ _ hh h => h.of_heap hh) own started (by kernel_rfl) Tryd.func5
    (ChangeSpec.witness_shaped (enc := enc) (C := Tryd.checked) (os := os) (X := fun w _ => laidMetH Tryd.prog laid1 w) false (World.doorLaid Tryd.prog 400 os) #[.agg #[.int .i64 0, .int .i64 0, .int .i64 0, .slice none 0 0], .agg #[.int .i64 0, .int .i64 0, .int .i64 0, .slice none 0 0]] 8 rfl (World.shaped_of_RefB (by kernel_rfl) (by kernel_rfl)) (by kernel_rfl) (by kernel_rfl) (by kernel_rfl) (door_met1 os _)) ?_
  intro W base args ds gs before hval0 hW _ _ hL _
  have hval : ∀ (j : Nat) t v, Tryd.f5.params[j]? = some t → args[j]? = some v → Value.okWide Tryd.prog W .any base t v := hval0
  have hWh := hW
  obtain ⟨p, q, hA0, hV, rfl, hfz, hnd⟩ := hW
  have hA : DataW.TrodAll enc Tryd.prog W 0 (fun _ => true) true Tryd.f5.params.toList args.toList ds p := hA0
  rw [Tryd.params5] at hA hval
  obtain ⟨v0, v1, d0, d1, p0, p1, rfl, rfl, rfl, h0, h1⟩ := trodAll_two hA
  obtain ⟨rfl, rfl⟩ := trodVars_none hV
  obtain ⟨Wx, Sx, Ax, ax, cx, lx, rfl, hpx, hmx, ⟨wax, wbx⟩, ⟨sax, sbx⟩, ⟨aax, abx⟩⟩ := open_sketch (hval 0 24 v0 rfl rfl) h0
  obtain ⟨Wy, Sy, Ay, ay, cy, ly, rfl, hpy, hmy, ⟨way, wby⟩, ⟨say, sby⟩, ⟨aay, aby⟩⟩ := open_sketch (hval 1 24 v1 rfl rfl) h1
  have hla := of_laid1 hL
  refine (merges_law Wx Sx Ax Wy Sy Ay ax ay cx cy lx ly W hpx hpy hmx hmy wax wbx way wby hla).mono fun e W' ⟨he, hb⟩ => ⟨_, he, law_post laidOut ?_ rfl Tryd.underlying4 rfl rfl rfl hWh hb⟩
  rw [Tryd.params5]
  exact fun t ht => ⟨(List.all_eq_true.1 (by kernel_rfl : [24, 24].all (fun t => Tryd.prog.readableRec t) = true)) t ht, of_decide_eq_true ((List.all_eq_true.1 (by kernel_rfl : [24, 24].all (fun t => decide (t < Tryd.prog.types.size)) = true)) t ht)⟩
theorem sketchMergesAsSpecified_row_holds : Rows.SketchMergesAsSpecifiedSaid :=
  OpenClaim.holds_of_wide 5 Tryd.f5 rfl rfl rfl rfl rfl rfl rfl ⟨rfl, rfl, rfl, rfl, rfl⟩ rfl rfl rfl rfl rfl (by kernel_rfl) Tryd.func5 (by kernel_rfl)
    (of_decide_eq_true (by kernel_rfl)) (by unfold Func.isWrapper; first | (rw [if_pos (by decide +kernel)]; kernel_rfl) | (rw [if_neg (by decide +kernel)]; exact ⟨rfl, rfl⟩))
    (fun os started H enc _ => lifted5 os started H enc)
theorem sketchMergesAsSpecified_holds : Rows.SketchMergesAsSpecifiedCardSaid :=
  Claim7.holds_tied_plain_at .later [] [.data] true (true, "22880ed91926e151e752461aae5ee5d7fcab9f9cc8c944ae004de9e68c54a8cf") false
    sketchMergesAsSpecified_row_holds (fun _ h => by cases h) (by kernel_rfl) (fun _ h => by cases h) sketchMergesAsSpecified_row_tie rfl ⟨rfl, rfl⟩ (by kernel_rfl) rfl
    (fun f fn hf hfn => by
      obtain rfl : f = 5 := Option.some.inj ((show Tryd.prog.funcNamed "weirgate/weirgatelaw08.SketchMergesAsSpecified" = some 5 by kernel_rfl).symm.trans hf) |>.symm
      obtain rfl : fn = Tryd.f5 := (Option.some.inj (Tryd.func5.symm.trans hfn)).symm
      exact ⟨by kernel_rfl, fun j t ht => by
        rw [Tryd.params5] at ht
        have hm : t ∈ [24, 24] := by simpa using Array.mem_of_getElem? ht
        have hall : ([24, 24].all fun u => !Tryd.prog.wantsStandIn u) = true := by kernel_rfl
        exact (show Tryd.prog.wantsStandIn t = false by simpa using List.all_eq_true.1 hall t hm)⟩)
    (by kernel_rfl)
#print axioms sketchMergesAsSpecified_holds
end Go.Proofs.YtmmjkhamknfhpaaDoor
