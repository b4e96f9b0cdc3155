/- For every list of accounts (nil too) and all numbers, the law QuotaKeepsAccounts returns true, and changes nothing. No condition. -/
import Derived.Test.YtjmegfejnocegaaP6
import Derived.Test.YtjmegfejnocegaaOP
import Derived.ProofKit
import Derived.Carry
namespace Go.Proofs.Ytjmegfejnocegaa
set_option linter.unusedVariables false
set_option linter.unusedSimpArgs false
open Go.ChangeShapes Go.WideShapes Go.ChangeAt Go.RowKit Go.Joins
set_option maxRecDepth 100000 in
theorem lifted6 (os : Os) (started : os.Started) (H : Type) (enc : TypeId × Value → H) :
    ReturnsInHanded {} Try.checked os 6 .any (Rows.quotaKeepsAccountsSpec.pre6 enc Try.prog Try.f6 Rows.quotaKeepsAccountsRow.domain false) (Rows.quotaKeepsAccountsSpec.post enc Try.prog Try.f6 false true false false) := by
  refine returnsInHanded_of_change (C := Try.checked) own started (by kernel_rfl) Try.func6
    (ChangeSpec.witness6 (enc := enc) (C := Try.checked) false ⟨#[], #[.slice none 0 0, .int .i64 0, .int .i64 0, .int .i64 0], []⟩ 8 (by kernel_rfl) (by kernel_rfl) (by kernel_rfl) (by kernel_rfl)) ?_
  intro W base args ds gs before hval0 hW hcnd _
  have hval : ∀ (j : Nat) t v, Try.f6.params[j]? = some t → args[j]? = some v → Value.okWide Try.prog W .any base t v := hval0
  have hWh := hW
  obtain ⟨p, q, hA0, hV, rfl, hfz, hnd⟩ := hW
  have hA : DataW.TrodAll enc Try.prog W 0 (fun _ => true) true Try.f6.params.toList args.toList ds p := hA0
  rw [Try.params6] at hA hval
  obtain ⟨v0, v1, v2, v3, d0, d1, d2, d3, p0, p1, p2, p3, rfl, rfl, rfl, h0, h1, h2, h3⟩ := trodAll_four hA
  obtain ⟨rfl, rfl⟩ := trodVars_none hV
  obtain ⟨a, cap, l, rfl, hl, ml⟩ := open_accounts (hval 0 35 v0 rfl rfl) h0
  obtain ⟨x, rfl, xlo, xhi⟩ := open_num (hval 1 3 v1 rfl rfl) h1
  obtain ⟨wt, rfl, wtlo, wthi⟩ := open_num (hval 2 3 v2 rfl rfl) h2
  obtain ⟨m, rfl, mlo, mhi⟩ := open_num (hval 3 3 v3 rfl rfl) h3
  refine (keeps a cap l x wt m W hl ml).mono fun e W' ⟨he, hb⟩ => ⟨_, he, law_post laidOut ?_ rfl Try.underlying4 rfl rfl rfl hWh hb⟩
  rw [Try.params6]
  exact fun t ht => ⟨(List.all_eq_true.1 (by kernel_rfl : [35, 3, 3, 3].all (fun t => Try.prog.readableRec t) = true)) t ht, of_decide_eq_true ((List.all_eq_true.1 (by kernel_rfl : [35, 3, 3, 3].all (fun t => decide (t < Try.prog.types.size)) = true)) t ht)⟩
set_option maxRecDepth 100000 in
theorem quotaKeepsAccounts_holds : Rows.QuotaKeepsAccountsSaid :=
  OpenClaim.holds_of_wide 6 Try.f6 rfl rfl rfl rfl rfl rfl rfl ⟨rfl, rfl, rfl, rfl, rfl⟩ rfl rfl rfl rfl rfl (by kernel_rfl) Try.func6 (by kernel_rfl)
    (of_decide_eq_true (by kernel_rfl)) (by unfold Func.isWrapper; rw [if_neg (of_decide_eq_false (by kernel_rfl))]; exact ⟨rfl, rfl⟩)
    (fun os started H enc _ => lifted6 os started H enc)
#print axioms quotaKeepsAccounts_holds
end Go.Proofs.Ytjmegfejnocegaa
