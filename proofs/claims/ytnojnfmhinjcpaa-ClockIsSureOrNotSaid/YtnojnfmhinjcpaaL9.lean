/- For every two valid periods, of which one lies within the other one, and every instant, the law ClockIsSureOrNot returns true, and changes nothing. No condition. -/
import Derived.Test.YtnojnfmhinjcpaaJ
import Derived.Test.YtnojnfmhinjcpaaG1
import Derived.Test.YtnojnfmhinjcpaaG2
import Derived.Test.YtnojnfmhinjcpaaG3
import Derived.Test.YtnojnfmhinjcpaaG4
import Derived.Test.YtnojnfmhinjcpaaG5
import Derived.Test.YtnojnfmhinjcpaaG6
import Derived.Test.YtnojnfmhinjcpaaK
import Derived.ProofKit
import Derived.Lib.SmallJoins
namespace Go.Proofs.Ytnojnfmhinjcpaa
set_option linter.unusedVariables false
set_option linter.unusedSimpArgs false
open Go.ChangeShapes Go.WideShapes Go.ChangeAt Go.RowKit Go.Joins
theorem sane (W : World) : Sane W := sanity_of W show_sample
theorem sureOrNot (a b c d t : Int) (w : World) :
    Calls Try.prog 9 #[per a b, per c d, .int .i64 t] w fun e w' => e = .returned (.bool true) ∧ Below w.heap.size w w' := by
  by_cases v1 : 0 ≤ a ∧ a ≤ b ∧ b ≤ 1099511627776
  · have V1 : validB a b = true := by simpa [validB] using v1
    by_cases v2 : 0 ≤ c ∧ c ≤ d ∧ d ≤ 1099511627776
    · have V2 : validB c d = true := by simpa [validB] using v2
      by_cases k1 : c < a
      · exact sureOrNot_out3 a b c d t w sane V1 V2 k1
      by_cases k2 : b < d
      · exact sureOrNot_out4 a b c d t w sane V1 V2 (by omega) k2
      by_cases t1 : d < t
      · by_cases t2 : b < t
        · exact sureOrNot_in1 a b c d t w sane v1 v2 ⟨by omega, by omega⟩ t1 t2
        · exact sureOrNot_in2 a b c d t w sane v1 v2 ⟨by omega, by omega⟩ t1 t2
      · by_cases t3 : t ≤ c
        · by_cases t4 : t ≤ a
          · exact sureOrNot_in3 a b c d t w sane v1 v2 ⟨by omega, by omega⟩ t1 t3 t4
          · exact sureOrNot_in4 a b c d t w sane v1 v2 ⟨by omega, by omega⟩ t1 t3 t4
        · exact sureOrNot_in5 a b c d t w sane v1 v2 ⟨by omega, by omega⟩ t1 t3
    · exact sureOrNot_out2 a b c d t w sane V1 (by simpa [validB] using v2)
  · exact sureOrNot_out1 a b c d t w sane (by simpa [validB] using v1)
theorem cells23 : Try.prog.cellsOf 23 = 2 := by kernel_rfl
set_option maxRecDepth 100000 in
theorem lifted9 (os : Os) (started : os.Started) (H : Type) (enc : TypeId × Value → H) :
    ReturnsInHanded {} Try.checked os 9 .any (Rows.clockIsSureOrNotSpec.pre6 enc Try.prog Try.f9 Rows.clockIsSureOrNotRow.domain false) (Rows.clockIsSureOrNotSpec.post enc Try.prog Try.f9 false true false false) := by
  refine returnsInHanded_of_change (C := Try.checked) own started (by kernel_rfl) Try.func9
    (ChangeSpec.witness6 (enc := enc) (C := Try.checked) false ⟨#[], #[per 0 0, per 0 0, .int .i64 0], []⟩ 8 (by kernel_rfl) (by kernel_rfl) (by kernel_rfl) (by kernel_rfl)) ?_
  intro W base args ds gs before hval0 hW hcnd _
  have hval : ∀ (j : Nat) t v, Try.f9.params[j]? = some t → args[j]? = some v → Value.okWide Try.prog W .any base t v := hval0
  have hWh := hW
  obtain ⟨p, q, hA0, hV, rfl, hfz, hnd⟩ := hW
  have hA : DataW.TrodAll enc Try.prog W 0 (fun _ => true) true Try.f9.params.toList args.toList ds p := hA0
  rw [Try.params9] at hA hval
  obtain ⟨v0, v1, v2, d0, d1, d2, p0, p1, p2, rfl, rfl, rfl, h0, h1, h2⟩ := trodAll_three hA
  obtain ⟨rfl, rfl⟩ := trodVars_none hV
  obtain ⟨x0, x1, y0, y1, m, rfl, rfl, rfl, hy0, hy1⟩ := open_agg2 Try.underlying23 (by kernel_rfl) cells23 (hval 0 23 v0 rfl rfl) h0
  obtain ⟨x2, x3, y2, y3, m2, rfl, rfl, rfl, hy2, hy3⟩ := open_agg2 Try.underlying23 (by kernel_rfl) cells23 (hval 1 23 v1 rfl rfl) h1
  obtain ⟨t, rfl, rfl, rfl, w2⟩ := open_int Try.underlying3 (hval 2 3 v2 rfl rfl) h2
  obtain ⟨a, e0, rfl, wa⟩ := DataW.trod_int Try.underlying3 hy0
  obtain ⟨b, e1, rfl, wb⟩ := DataW.trod_int Try.underlying3 hy1
  obtain ⟨c, e2, rfl, wc⟩ := DataW.trod_int Try.underlying3 hy2
  obtain ⟨d, e3, rfl, wd⟩ := DataW.trod_int Try.underlying3 hy3
  simp at e0 e1 e2 e3
  subst e0 e1 e2 e3
  refine (sureOrNot a b c d t W).mono fun e W' ⟨he, hb⟩ => ⟨_, he, law_post laidOut ?_ rfl Try.underlying4 rfl rfl rfl hWh hb⟩
  rw [Try.params9]
  exact fun t ht => ⟨(List.all_eq_true.1 (by kernel_rfl : [23, 23, 3].all (fun t => Try.prog.readableRec t) = true)) t ht, of_decide_eq_true ((List.all_eq_true.1 (by kernel_rfl : [23, 23, 3].all (fun t => decide (t < Try.prog.types.size)) = true)) t ht)⟩
theorem clockIsSureOrNot_holds : Rows.ClockIsSureOrNotSaid :=
  OpenClaim.holds_of_wide 9 Try.f9 rfl rfl rfl rfl rfl rfl rfl ⟨rfl, rfl, rfl, rfl, rfl⟩ rfl rfl rfl rfl rfl (by kernel_rfl) Try.func9 (by kernel_rfl)
    (of_decide_eq_true (by kernel_rfl)) (by unfold Func.isWrapper; rw [if_neg (of_decide_eq_false (by kernel_rfl))]; exact ⟨rfl, rfl⟩)
    (fun os started H enc _ => lifted9 os started H enc)
#print axioms clockIsSureOrNot_holds
end Go.Proofs.Ytnojnfmhinjcpaa
