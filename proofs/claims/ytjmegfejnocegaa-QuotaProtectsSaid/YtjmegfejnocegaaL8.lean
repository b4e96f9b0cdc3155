/- For every number, list of accounts (nil too), byte and number, the law QuotaProtects returns true, and changes nothing. No condition. -/
import Derived.Test.YtjmegfejnocegaaP8
import Derived.Test.YtjmegfejnocegaaOP
import Derived.ProofKit
import Derived.Carry
namespace Go.Proofs.Ytjmegfejnocegaa
set_option linter.unusedVariables false
set_option linter.unusedSimpArgs false
open Go.ChangeShapes Go.WideShapes Go.ChangeAt Go.RowKit Go.Joins
set_option maxRecDepth 100000 in
theorem lifted8 (os : Os) (started : os.Started) (H : Type) (enc : TypeId × Value → H) :
    ReturnsInHanded {} Try.checked os 8 .any (Rows.quotaProtectsSpec.pre6 enc Try.prog Try.f8 Rows.quotaProtectsRow.domain false) (Rows.quotaProtectsSpec.post enc Try.prog Try.f8 false true false false) := by
  refine returnsInHanded_of_change (C := Try.checked) own started (by kernel_rfl) Try.func8
    (ChangeSpec.witness6 (enc := enc) (C := Try.checked) false ⟨#[], #[.int .i64 0, .slice none 0 0, .int .u8 0, .int .i64 0], []⟩ 8 (by kernel_rfl) (by kernel_rfl) (by kernel_rfl) (by kernel_rfl)) ?_
  intro W base args ds gs before hval0 hW hcnd _
  have hval : ∀ (j : Nat) t v, Try.f8.params[j]? = some t → args[j]? = some v → Value.okWide Try.prog W .any base t v := hval0
  have hWh := hW
  obtain ⟨p, q, hA0, hV, rfl, hfz, hnd⟩ := hW
  have hA : DataW.TrodAll enc Try.prog W 0 (fun _ => true) true Try.f8.params.toList args.toList ds p := hA0
  rw [Try.params8] at hA hval
  obtain ⟨v0, v1, v2, v3, d0, d1, d2, d3, p0, p1, p2, p3, rfl, rfl, rfl, h0, h1, h2, h3⟩ := trodAll_four hA
  obtain ⟨rfl, rfl⟩ := trodVars_none hV
  obtain ⟨n, rfl, nlo, nhi⟩ := open_num (hval 0 3 v0 rfl rfl) h0
  obtain ⟨a, cap, l, rfl, hl, ml⟩ := open_accounts (hval 1 35 v1 rfl rfl) h1
  obtain ⟨x, rfl, xhi⟩ := open_u8 (hval 2 5 v2 rfl rfl) h2
  obtain ⟨m, rfl, mlo, mhi⟩ := open_num (hval 3 3 v3 rfl rfl) h3
  refine (protects n a cap l x m W hl ml xhi mlo mhi).mono fun e W' ⟨he, hb⟩ => ⟨_, he, law_post laidOut ?_ rfl Try.underlying4 rfl rfl rfl hWh hb⟩
  rw [Try.params8]
  exact fun t ht => ⟨(List.all_eq_true.1 (by kernel_rfl : [3, 35, 5, 3].all (fun t => Try.prog.readableRec t) = true)) t ht, of_decide_eq_true ((List.all_eq_true.1 (by kernel_rfl : [3, 35, 5, 3].all (fun t => decide (t < Try.prog.types.size)) = true)) t ht)⟩
set_option maxRecDepth 100000 in
theorem quotaProtects_holds : Rows.QuotaProtectsSaid :=
  OpenClaim.holds_of_wide 8 Try.f8 rfl rfl rfl rfl rfl rfl rfl ⟨rfl, rfl, rfl, rfl, rfl⟩ rfl rfl rfl rfl rfl (by kernel_rfl) Try.func8 (by kernel_rfl)
    (of_decide_eq_true (by kernel_rfl)) (by unfold Func.isWrapper; rw [if_neg (of_decide_eq_false (by kernel_rfl))]; exact ⟨rfl, rfl⟩)
    (fun os started H enc _ => lifted8 os started H enc)
#print axioms quotaProtects_holds
end Go.Proofs.Ytjmegfejnocegaa
