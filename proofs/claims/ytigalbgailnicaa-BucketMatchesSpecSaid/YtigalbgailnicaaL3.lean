/- For every bucket, two instants and a number, the law BucketMatchesSpec returns true, and changes nothing. No condition. -/
import Derived.Test.YtigalbgailnicaaP3
import Derived.Test.YtigalbgailnicaaO
import Derived.ProofKit
import Derived.Carry
namespace Go.Proofs.Ytigalbgailnicaa
set_option linter.unusedVariables false
set_option linter.unusedSimpArgs false
open Go.ChangeShapes Go.WideShapes Go.ChangeAt Go.RowKit Go.Joins
set_option maxRecDepth 100000 in
theorem lifted3 (os : Os) (started : os.Started) (H : Type) (enc : TypeId × Value → H) :
    ReturnsInHanded {} Try.checked os 3 .any (Rows.bucketMatchesSpecSpec.pre6 enc Try.prog Try.f3 Rows.bucketMatchesSpecRow.domain false) (Rows.bucketMatchesSpecSpec.post enc Try.prog Try.f3 false true false false) := by
  refine returnsInHanded_of_change (C := Try.checked) own started (by kernel_rfl) Try.func3
    (ChangeSpec.witness6 (enc := enc) (C := Try.checked) false ⟨#[], #[bk 0 0 0 0 0, .int .i64 0, .int .i64 0, .int .i64 0], []⟩ 8 (by kernel_rfl) (by kernel_rfl) (by kernel_rfl) (by kernel_rfl)) ?_
  intro W base args ds gs before hval0 hW hcnd _
  have hval : ∀ (j : Nat) t v, Try.f3.params[j]? = some t → args[j]? = some v → Value.okWide Try.prog W .any base t v := hval0
  have hWh := hW
  obtain ⟨p, q, hA0, hV, rfl, hfz, hnd⟩ := hW
  have hA : DataW.TrodAll enc Try.prog W 0 (fun _ => true) true Try.f3.params.toList args.toList ds p := hA0
  rw [Try.params3] at hA hval
  obtain ⟨v0, v1, v2, v3, d0, d1, d2, d3, p0, p1, p2, p3, rfl, rfl, rfl, h0, h1, h2, h3⟩ := trodAll_four hA
  obtain ⟨rfl, rfl⟩ := trodVars_none hV
  obtain ⟨c, n, dn, l, a, rfl⟩ := open_bkt (hval 0 23 v0 rfl rfl) h0
  obtain ⟨t, rfl, wt⟩ := open_num (hval 1 3 v1 rfl rfl) h1
  obtain ⟨k, rfl, wk⟩ := open_num (hval 2 3 v2 rfl rfl) h2
  obtain ⟨u, rfl, wu⟩ := open_num (hval 3 3 v3 rfl rfl) h3
  refine (matches_spec c n dn l a t k u W).mono fun e W' ⟨he, hb⟩ => ⟨_, he, law_post laidOut ?_ rfl Try.underlying4 rfl rfl rfl hWh hb⟩
  rw [Try.params3]
  exact fun t ht => ⟨(List.all_eq_true.1 (by kernel_rfl : [23, 3, 3, 3].all (fun t => Try.prog.readableRec t) = true)) t ht, of_decide_eq_true ((List.all_eq_true.1 (by kernel_rfl : [23, 3, 3, 3].all (fun t => decide (t < Try.prog.types.size)) = true)) t ht)⟩
theorem bucketMatchesSpec_holds : Rows.BucketMatchesSpecSaid :=
  OpenClaim.holds_of_wide 3 Try.f3 rfl rfl rfl rfl rfl rfl rfl ⟨rfl, rfl, rfl, rfl, rfl⟩ rfl rfl rfl rfl rfl (by kernel_rfl) Try.func3 (by kernel_rfl)
    (of_decide_eq_true (by kernel_rfl)) (by unfold Func.isWrapper; rw [if_neg (of_decide_eq_false (by kernel_rfl))]; exact ⟨rfl, rfl⟩)
    (fun os started H enc _ => lifted3 os started H enc)
#print axioms bucketMatchesSpec_holds
end Go.Proofs.Ytigalbgailnicaa
