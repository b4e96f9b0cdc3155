/- For all two integers, every sketch, valid or not, every key and every row, the law SketchBeginsAsSpecified returns true, and changes nothing; the table rounds and the table of the reference hold at the call what the program text lays there (tied). -/
import Derived.Test.YtmmjkhamknfhpaaDoorP3
import Derived.Test.YtmmjkhamknfhpaaDoorO3
import Derived.Test.YtmmjkhamknfhpaaDoorV
import Derived.Test.YtmmjkhamknfhpaaDoorTie
import Derived.Test.YtmmjkhamknfhpaaDoorCards
import Derived.SevenTiedAt
namespace Go.Proofs.YtmmjkhamknfhpaaDoor
set_option linter.unusedVariables false
set_option linter.unusedSimpArgs false
open Go Go.ChangeShapes Go.WideShapes Go.ChangeAt Go.RowKit Go.Joins
set_option maxRecDepth 100000 in
theorem lifted3 (os : Os) (started : os.Started) (H : Type) (enc : TypeId × Value → H) :
    ReturnsInHanded {} Tryd.checked os 3 .any (fun w args => (Rows.sketchBeginsAsSpecifiedSpec.pre enc Tryd.prog Tryd.f3 [] false w args ∧ laidMetH Tryd.prog laid2 w) ∧ sizedMet enc Tryd.prog Tryd.f3 (OpenSpec.ofChange Rows.sketchBeginsAsSpecifiedSpec) false w args)
      (Rows.sketchBeginsAsSpecifiedSpec.post enc Tryd.prog Tryd.f3 false true false false) := by
  refine returnsInHanded_of_change_and (C := Tryd.checked) (X := fun w _ => laidMetH Tryd.prog laid2 w) (fun _ _ _ hh h => h.of_heap hh) own started (by kernel_rfl) Tryd.func3
    (ChangeSpec.witness_shaped (enc := enc) (C := Tryd.checked) (os := os) (X := fun w _ => laidMetH Tryd.prog laid2 w) false (World.doorLaid Tryd.prog 400 os) #[.int .i64 0, .int .i64 0, .agg #[.int .i64 0, .int .i64 0, .int .i64 0, .slice none 0 0], .string ⟨#[]⟩, .int .u8 0] 8 rfl (World.shaped_of_RefB (by kernel_rfl) (by kernel_rfl)) (by kernel_rfl) (by kernel_rfl) (by kernel_rfl) (door_met2 os _)) ?_
  intro W base args ds gs before hval0 hW _ _ hL _
  have hval : ∀ (j : Nat) t v, Tryd.f3.params[j]? = some t → args[j]? = some v → Value.okWide Tryd.prog W .any base t v := hval0
  have hWh := hW
  obtain ⟨p, q, hA0, hV, rfl, hfz, hnd⟩ := hW
  have hA : DataW.TrodAll enc Tryd.prog W 0 (fun _ => true) true Tryd.f3.params.toList args.toList ds p := hA0
  rw [Tryd.params3] at hA hval
  obtain ⟨v0, v1, v2, v3, v4, d0, d1, d2, d3, d4, p0, p1, p2, p3, p4, rfl, rfl, rfl, h0, h1, h2, h3, h4⟩ := trodAll_five hA
  obtain ⟨rfl, rfl⟩ := trodVars_none hV
  obtain ⟨nw, rfl, nw1, nw2⟩ := open_num (hval 0 3 v0 rfl rfl) h0
  obtain ⟨ns, rfl, ns1, ns2⟩ := open_num (hval 1 3 v1 rfl rfl) h1
  obtain ⟨Wx, Sx, Ax, ax, cx, lx, rfl, hpx, hmx, ⟨wax, wbx⟩, ⟨sax, sbx⟩, ⟨aax, abx⟩⟩ := open_sketch (hval 2 24 v2 rfl rfl) h2
  obtain ⟨ka, rfl, -, hka⟩ := open_str (hval 3 9 v3 rfl rfl) h3
  obtain ⟨u8, rfl, hu8⟩ := open_u8 (hval 4 5 v4 rfl rfl) h4
  obtain ⟨hla, hlk⟩ := of_laid2 hL
  refine (begins_law nw ns Wx Sx Ax ax cx lx ka u8 W hpx hmx nw1 nw2 wax wbx hu8 hla hlk hka).mono fun e W' ⟨he, hb⟩ => ⟨_, he, law_post laidOut ?_ rfl Tryd.underlying4 rfl rfl rfl hWh hb⟩
  rw [Tryd.params3]
  exact fun t ht => ⟨(List.all_eq_true.1 (by kernel_rfl : [3, 3, 24, 9, 5].all (fun t => Tryd.prog.readableRec t) = true)) t ht, of_decide_eq_true ((List.all_eq_true.1 (by kernel_rfl : [3, 3, 24, 9, 5].all (fun t => decide (t < Tryd.prog.types.size)) = true)) t ht)⟩
theorem sketchBeginsAsSpecified_row_holds : Rows.SketchBeginsAsSpecifiedSaid :=
  OpenClaim.holds_of_wide 3 Tryd.f3 rfl rfl rfl rfl rfl rfl rfl ⟨rfl, rfl, rfl, rfl, rfl⟩ rfl rfl rfl rfl rfl (by kernel_rfl) Tryd.func3 (by kernel_rfl)
    (of_decide_eq_true (by kernel_rfl)) (by unfold Func.isWrapper; first | (rw [if_pos (by decide +kernel)]; kernel_rfl) | (rw [if_neg (by decide +kernel)]; exact ⟨rfl, rfl⟩))
    (fun os started H enc _ => lifted3 os started H enc)
theorem sketchBeginsAsSpecified_holds : Rows.SketchBeginsAsSpecifiedCardSaid :=
  Claim7.holds_tied_plain_at .later [] [.data, .data] true (true, "22880ed91926e151e752461aae5ee5d7fcab9f9cc8c944ae004de9e68c54a8cf") false
    sketchBeginsAsSpecified_row_holds (fun _ h => by cases h) (by kernel_rfl) (fun _ h => by cases h) sketchBeginsAsSpecified_row_tie rfl ⟨rfl, rfl⟩ (by kernel_rfl) rfl
    (fun f fn hf hfn => by
      obtain rfl : f = 3 := Option.some.inj ((show Tryd.prog.funcNamed "weirgate/weirgatelaw08.SketchBeginsAsSpecified" = some 3 by kernel_rfl).symm.trans hf) |>.symm
      obtain rfl : fn = Tryd.f3 := (Option.some.inj (Tryd.func3.symm.trans hfn)).symm
      exact ⟨by kernel_rfl, fun j t ht => by
        rw [Tryd.params3] at ht
        have hm : t ∈ [3, 3, 24, 9, 5] := by simpa using Array.mem_of_getElem? ht
        have hall : ([3, 3, 24, 9, 5].all fun u => !Tryd.prog.wantsStandIn u) = true := by kernel_rfl
        exact (show Tryd.prog.wantsStandIn t = false by simpa using List.all_eq_true.1 hall t hm)⟩)
    (by kernel_rfl)
#print axioms sketchBeginsAsSpecified_holds
end Go.Proofs.YtmmjkhamknfhpaaDoor
