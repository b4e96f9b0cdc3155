/- For every purse (its coins nil too), all numbers and every period, the law CreditPursesMatchSpec returns true, and changes nothing. No condition. -/
import Derived.Test.YtcgdhankllphgaaZ4
import Derived.Test.YtcgdhankllphgaaOP
import Derived.ProofKit
import Derived.Carry
namespace Go.Proofs.Ytcgdhankllphgaa
set_option linter.unusedVariables false
set_option linter.unusedSimpArgs false
open Go.ChangeShapes Go.WideShapes Go.ChangeAt Go.RowKit Go.Joins
set_option maxRecDepth 100000 in
theorem lifted4 (os : Os) (started : os.Started) (H : Type) (enc : TypeId × Value → H) :
    ReturnsInHanded {} Try.checked os 4 .any (Rows.creditPursesMatchSpecSpec.pre6 enc Try.prog Try.f4 Rows.creditPursesMatchSpecRow.domain false) (Rows.creditPursesMatchSpecSpec.post enc Try.prog Try.f4 false true false false) := by
  refine returnsInHanded_of_change (C := Try.checked) own started (by kernel_rfl) Try.func4
    (ChangeSpec.witness6 (enc := enc) (C := Try.checked) false ⟨#[], #[.agg #[.int .i64 0, .slice none 0 0], .int .i64 0, .int .i64 0, .agg #[.int .i64 0, .int .i64 0]], []⟩ 8 (by kernel_rfl) (by kernel_rfl) (by kernel_rfl) (by kernel_rfl)) ?_
  intro W base args ds gs before hval0 hW hcnd _
  have hval : ∀ (j : Nat) t v, Try.f4.params[j]? = some t → args[j]? = some v → Value.okWide Try.prog W .any base t v := hval0
  have hWh := hW
  obtain ⟨p, q, hA0, hV, rfl, hfz, hnd⟩ := hW
  have hA : DataW.TrodAll enc Try.prog W 0 (fun _ => true) true Try.f4.params.toList args.toList ds p := hA0
  rw [Try.params4] at hA hval
  obtain ⟨v0, v1, v2, v3, d0, d1, d2, d3, p0, p1, p2, p3, rfl, rfl, rfl, h0, h1, h2, h3⟩ := trodAll_four hA
  obtain ⟨rfl, rfl⟩ := trodVars_none hV
  obtain ⟨plen, ap, cp, k, rfl, hk, mk, bp⟩ := open_wallet (hval 0 45 v0 rfl rfl) h0
  obtain ⟨wi, rfl, wilo, wihi⟩ := open_num (hval 1 3 v1 rfl rfl) h1
  obtain ⟨n, rfl, nlo, nhi⟩ := open_num (hval 2 3 v2 rfl rfl) h2
  obtain ⟨lo, hi, rfl, blo, bhi⟩ := open_period (hval 3 26 v3 rfl rfl) h3
  refine (law4 plen ap cp k wi n lo hi W hk).mono fun e W' ⟨he, hb⟩ => ⟨_, he, law_post laidOut ?_ rfl Try.underlying4 rfl rfl rfl hWh hb⟩
  rw [Try.params4]
  exact fun t ht => ⟨(List.all_eq_true.1 (by kernel_rfl : [45, 3, 3, 26].all (fun t => Try.prog.readableRec t) = true)) t ht, of_decide_eq_true ((List.all_eq_true.1 (by kernel_rfl : [45, 3, 3, 26].all (fun t => decide (t < Try.prog.types.size)) = true)) t ht)⟩
set_option maxRecDepth 100000 in
theorem creditPursesMatchSpec_holds : Rows.CreditPursesMatchSpecSaid :=
  OpenClaim.holds_of_wide 4 Try.f4 rfl rfl rfl rfl rfl rfl rfl ⟨rfl, rfl, rfl, rfl, rfl⟩ rfl rfl rfl rfl rfl (by kernel_rfl) Try.func4 (by kernel_rfl)
    (of_decide_eq_true (by kernel_rfl)) (by unfold Func.isWrapper; rw [if_neg (of_decide_eq_false (by kernel_rfl))]; exact ⟨rfl, rfl⟩)
    (fun os started H enc _ => lifted4 os started H enc)
#print axioms creditPursesMatchSpec_holds
end Go.Proofs.Ytcgdhankllphgaa
