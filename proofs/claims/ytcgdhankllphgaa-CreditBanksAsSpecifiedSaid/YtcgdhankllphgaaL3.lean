/- For every bank (its rows nil too), all numbers and every period, the law CreditBanksAsSpecified returns true, and changes nothing. No condition. -/
import Derived.Test.YtcgdhankllphgaaZ3
import Derived.Test.YtcgdhankllphgaaOP
import Derived.ProofKit
import Derived.Carry
namespace Go.Proofs.Ytcgdhankllphgaa
set_option linter.unusedVariables false
set_option linter.unusedSimpArgs false
open Go.ChangeShapes Go.WideShapes Go.ChangeAt Go.RowKit Go.Joins
set_option maxRecDepth 100000 in
theorem lifted3 (os : Os) (started : os.Started) (H : Type) (enc : TypeId × Value → H) :
    ReturnsInHanded {} Try.checked os 3 .any (Rows.creditBanksAsSpecifiedSpec.pre6 enc Try.prog Try.f3 Rows.creditBanksAsSpecifiedRow.domain false) (Rows.creditBanksAsSpecifiedSpec.post enc Try.prog Try.f3 false true false false) := by
  refine returnsInHanded_of_change (C := Try.checked) own started (by kernel_rfl) Try.func3
    (ChangeSpec.witness6 (enc := enc) (C := Try.checked) false ⟨#[], #[.agg #[.int .i64 0, .int .i64 0, .slice none 0 0], .int .i64 0, .int .i64 0, .int .i64 0, .agg #[.int .i64 0, .int .i64 0]], []⟩ 8 (by kernel_rfl) (by kernel_rfl) (by kernel_rfl) (by kernel_rfl)) ?_
  intro W base args ds gs before hval0 hW hcnd _
  have hval : ∀ (j : Nat) t v, Try.f3.params[j]? = some t → args[j]? = some v → Value.okWide Try.prog W .any base t v := hval0
  have hWh := hW
  obtain ⟨p, q, hA0, hV, rfl, hfz, hnd⟩ := hW
  have hA : DataW.TrodAll enc Try.prog W 0 (fun _ => true) true Try.f3.params.toList args.toList ds p := hA0
  rw [Try.params3] at hA hval
  obtain ⟨v0, vs0, d0, ds0, p0, q0, hargs0, rfl, rfl, h0, r0⟩ := trodAll_cons hA
  obtain ⟨v1, vs1, d1, ds1, p1, q1, hargs1, rfl, rfl, h1, r1⟩ := trodAll_cons r0
  subst hargs1
  obtain ⟨v2, vs2, d2, ds2, p2, q2, hargs2, rfl, rfl, h2, r2⟩ := trodAll_cons r1
  subst hargs2
  obtain ⟨v3, vs3, d3, ds3, p3, q3, hargs3, rfl, rfl, h3, r3⟩ := trodAll_cons r2
  subst hargs3
  obtain ⟨v4, vs4, d4, ds4, p4, q4, hargs4, rfl, rfl, h4, r4⟩ := trodAll_cons r3
  subst hargs4
  obtain ⟨hnl, rfl, rfl⟩ := trodAll_nil r4
  subst hnl
  obtain rfl : args = #[v0, v1, v2, v3, v4] := Array.toList_inj.1 hargs0
  obtain ⟨rfl, rfl⟩ := trodVars_none hV
  obtain ⟨cap, len, ab, cb, l, rfl, hl, ml, bc, bl⟩ := open_bank (hval 0 24 v0 rfl rfl) h0
  obtain ⟨wi, rfl, wilo, wihi⟩ := open_num (hval 1 3 v1 rfl rfl) h1
  obtain ⟨ga, rfl, galo, gahi⟩ := open_num (hval 2 3 v2 rfl rfl) h2
  obtain ⟨n, rfl, nlo, nhi⟩ := open_num (hval 3 3 v3 rfl rfl) h3
  obtain ⟨lo, hi, rfl, blo, bhi⟩ := open_period (hval 4 26 v4 rfl rfl) h4
  refine (law3 cap len ab cb l wi ga n lo hi W hl).mono fun e W' ⟨he, hb⟩ => ⟨_, he, law_post laidOut ?_ rfl Try.underlying4 rfl rfl rfl hWh hb⟩
  rw [Try.params3]
  exact fun t ht => ⟨(List.all_eq_true.1 (by kernel_rfl : [24, 3, 3, 3, 26].all (fun t => Try.prog.readableRec t) = true)) t ht, of_decide_eq_true ((List.all_eq_true.1 (by kernel_rfl : [24, 3, 3, 3, 26].all (fun t => decide (t < Try.prog.types.size)) = true)) t ht)⟩
set_option maxRecDepth 100000 in
theorem creditBanksAsSpecified_holds : Rows.CreditBanksAsSpecifiedSaid :=
  OpenClaim.holds_of_wide 3 Try.f3 rfl rfl rfl rfl rfl rfl rfl ⟨rfl, rfl, rfl, rfl, rfl⟩ rfl rfl rfl rfl rfl (by kernel_rfl) Try.func3 (by kernel_rfl)
    (of_decide_eq_true (by kernel_rfl)) (by unfold Func.isWrapper; rw [if_neg (of_decide_eq_false (by kernel_rfl))]; exact ⟨rfl, rfl⟩)
    (fun os started H enc _ => lifted3 os started H enc)
#print axioms creditBanksAsSpecified_holds
end Go.Proofs.Ytcgdhankllphgaa
