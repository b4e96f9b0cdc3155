/- For all two sketches, valid or not, and every key, the law SketchMergedCountsBoth returns true, and changes nothing; the table rounds holds at the call what the program text lays there (tied). -/
import Derived.Test.YtmmjkhamknfhpaaDoorP8
import Derived.Test.YtmmjkhamknfhpaaDoorO
import Derived.Test.YtmmjkhamknfhpaaDoorV
import Derived.Test.YtmmjkhamknfhpaaDoorTie
import Derived.Test.YtmmjkhamknfhpaaDoorCards
import Derived.SevenTiedAt
namespace Go.Proofs.YtmmjkhamknfhpaaDoor
set_option linter.unusedVariables false
set_option linter.unusedSimpArgs false
open Go Go.ChangeShapes Go.WideShapes Go.ChangeAt Go.RowKit Go.Joins
set_option maxRecDepth 100000 in
theorem lifted8 (os : Os) (started : os.Started) (H : Type) (enc : TypeId × Value → H) :
    ReturnsInHanded {} Tryd.checked os 8 .any (fun w args => (Rows.sketchMergedCountsBothSpec.pre enc Tryd.prog Tryd.f8 [] false w args ∧ laidMetH Tryd.prog laid1 w) ∧ sizedMet enc Tryd.prog Tryd.f8 (OpenSpec.ofChange Rows.sketchMergedCountsBothSpec) false w args)
      (Rows.sketchMergedCountsBothSpec.post enc Tryd.prog Tryd.f8 false true false false) := by
  refine returnsInHanded_of_change_and (C := Tryd.checked) (X := fun w _ => laidMetH Tryd.prog laid1 w) (fun _ _ _ hh h => h.of_heap hh) own started (by kernel_rfl) Tryd.func8
    (ChangeSpec.witness_shaped (enc := enc) (C := Tryd.checked) (os := os) (X := fun w _ => laidMetH Tryd.prog laid1 w) false (World.doorLaid Tryd.prog 400 os) #[.agg #[.int .i64 0, .int .i64 0, .int .i64 0, .slice none 0 0], .agg #[.int .i64 0, .int .i64 0, .int .i64 0, .slice none 0 0], .string ⟨#[]⟩] 8 rfl (World.shaped_of_RefB (by kernel_rfl) (by kernel_rfl)) (by kernel_rfl) (by kernel_rfl) (by kernel_rfl) (door_met1 os _)) ?_
  intro W base args ds gs before hval0 hW _ _ hL _
  have hval : ∀ (j : Nat) t v, Tryd.f8.params[j]? = some t → args[j]? = some v → Value.okWide Tryd.prog W .any base t v := hval0
  have hWh := hW
  obtain ⟨p, q, hA0, hV, rfl, hfz, hnd⟩ := hW
  have hA : DataW.TrodAll enc Tryd.prog W 0 (fun _ => true) true Tryd.f8.params.toList args.toList ds p := hA0
  rw [Tryd.params8] at hA hval
  obtain ⟨v0, v1, v2, d0, d1, d2, p0, p1, p2, rfl, rfl, rfl, h0, h1, h2⟩ := trodAll_three hA
  obtain ⟨rfl, rfl⟩ := trodVars_none hV
  obtain ⟨Wx, Sx, Ax, ax, cx, lx, rfl, hpx, hmx, ⟨wax, wbx⟩, ⟨sax, sbx⟩, ⟨aax, abx⟩⟩ := open_sketch (hval 0 24 v0 rfl rfl) h0
  obtain ⟨Wy, Sy, Ay, ay, cy, ly, rfl, hpy, hmy, ⟨way, wby⟩, ⟨say, sby⟩, ⟨aay, aby⟩⟩ := open_sketch (hval 1 24 v1 rfl rfl) h1
  obtain ⟨ka, rfl, -, hka⟩ := open_str (hval 2 9 v2 rfl rfl) h2
  have hla := of_laid1 hL
  refine (both_law Wx Sx Ax Wy Sy Ay ax ay cx cy lx ly ka W hpx hpy hmx hmy hka wax wbx way wby hla).mono fun e W' ⟨he, hb⟩ => ⟨_, he, law_post laidOut ?_ rfl Tryd.underlying4 rfl rfl rfl hWh hb⟩
  rw [Tryd.params8]
  exact fun t ht => ⟨(List.all_eq_true.1 (by kernel_rfl : [24, 24, 9].all (fun t => Tryd.prog.readableRec t) = true)) t ht, of_decide_eq_true ((List.all_eq_true.1 (by kernel_rfl : [24, 24, 9].all (fun t => decide (t < Tryd.prog.types.size)) = true)) t ht)⟩
theorem sketchMergedCountsBoth_row_holds : Rows.SketchMergedCountsBothSaid :=
  OpenClaim.holds_of_wide 8 Tryd.f8 rfl rfl rfl rfl rfl rfl rfl ⟨rfl, rfl, rfl, rfl, rfl⟩ rfl rfl rfl rfl rfl (by kernel_rfl) Tryd.func8 (by kernel_rfl)
    (of_decide_eq_true (by kernel_rfl)) (by unfold Func.isWrapper; first | (rw [if_pos (by decide +kernel)]; kernel_rfl) | (rw [if_neg (by decide +kernel)]; exact ⟨rfl, rfl⟩))
    (fun os started H enc _ => lifted8 os started H enc)
theorem sketchMergedCountsBoth_holds : Rows.SketchMergedCountsBothCardSaid :=
  Claim7.holds_tied_plain_at .later [] [.data] true (true, "22880ed91926e151e752461aae5ee5d7fcab9f9cc8c944ae004de9e68c54a8cf") false
    sketchMergedCountsBoth_row_holds (fun _ h => by cases h) (by kernel_rfl) (fun _ h => by cases h) sketchMergedCountsBoth_row_tie rfl ⟨rfl, rfl⟩ (by kernel_rfl) rfl
    (fun f fn hf hfn => by
      obtain rfl : f = 8 := Option.some.inj ((show Tryd.prog.funcNamed "weirgate/weirgatelaw08.SketchMergedCountsBoth" = some 8 by kernel_rfl).symm.trans hf) |>.symm
      obtain rfl : fn = Tryd.f8 := (Option.some.inj (Tryd.func8.symm.trans hfn)).symm
      exact ⟨by kernel_rfl, fun j t ht => by
        rw [Tryd.params8] at ht
        have hm : t ∈ [24, 24, 9] := by simpa using Array.mem_of_getElem? ht
        have hall : ([24, 24, 9].all fun u => !Tryd.prog.wantsStandIn u) = true := by kernel_rfl
        exact (show Tryd.prog.wantsStandIn t = false by simpa using List.all_eq_true.1 hall t hm)⟩)
    (by kernel_rfl)
#print axioms sketchMergedCountsBoth_holds
end Go.Proofs.YtmmjkhamknfhpaaDoor
