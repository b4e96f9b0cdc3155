/- For every slice of bytes (nil too), the law WireDecodeMatchesSpec returns true, and changes nothing. No condition. -/
import Derived.Test.YtlihndekeaefcaaP4
import Derived.Test.YtlihndekeaefcaaO
import Derived.ProofKit
import Derived.Carry
namespace Go.Proofs.Ytlihndekeaefcaa
set_option linter.unusedVariables false
set_option linter.unusedSimpArgs false
open Go.ChangeShapes Go.WideShapes Go.ChangeAt Go.RowKit Go.Joins
set_option maxRecDepth 100000 in
theorem lifted4 (os : Os) (started : os.Started) (H : Type) (enc : TypeId × Value → H) :
    ReturnsInHanded {} Try.checked os 4 .any (Rows.wireDecodeMatchesSpecSpec.pre6 enc Try.prog Try.f4 Rows.wireDecodeMatchesSpecRow.domain false) (Rows.wireDecodeMatchesSpecSpec.post enc Try.prog Try.f4 false true false false) := by
  refine returnsInHanded_of_change (C := Try.checked) own started (by kernel_rfl) Try.func4
    (ChangeSpec.witness6 (enc := enc) (C := Try.checked) false ⟨#[], #[.slice none 0 0], []⟩ 8 (by kernel_rfl) (by kernel_rfl) (by kernel_rfl) (by kernel_rfl)) ?_
  intro W base args ds gs before hval0 hW hcnd _
  have hval : ∀ (j : Nat) t v, Try.f4.params[j]? = some t → args[j]? = some v → Value.okWide Try.prog W .any base t v := hval0
  have hWh := hW
  obtain ⟨p, q, hA0, hV, rfl, hfz, hnd⟩ := hW
  have hA : DataW.TrodAll enc Try.prog W 0 (fun _ => true) true Try.f4.params.toList args.toList ds p := hA0
  rw [Try.params4] at hA hval
  obtain ⟨v0, d0, rfl, rfl, h0⟩ := trodAll_one hA
  obtain ⟨rfl, rfl⟩ := trodVars_none hV
  obtain ⟨a, cap, l, rfl, lc, lh, lm, ld⟩ := open_bytes (hval 0 28 v0 rfl rfl) h0
  refine (decodeMatches a cap l W lh lc lm).mono fun e W' ⟨he, hb⟩ => ⟨_, he, law_post laidOut ?_ rfl Try.underlying4 rfl rfl rfl hWh hb⟩
  rw [Try.params4]
  exact fun t ht => ⟨(List.all_eq_true.1 (by kernel_rfl : [28].all (fun t => Try.prog.readableRec t) = true)) t ht, of_decide_eq_true ((List.all_eq_true.1 (by kernel_rfl : [28].all (fun t => decide (t < Try.prog.types.size)) = true)) t ht)⟩
theorem wireDecodeMatchesSpec_holds : Rows.WireDecodeMatchesSpecSaid :=
  OpenClaim.holds_of_wide 4 Try.f4 rfl rfl rfl rfl rfl rfl rfl ⟨rfl, rfl, rfl, rfl, rfl⟩ rfl rfl rfl rfl rfl (by kernel_rfl) Try.func4 (by kernel_rfl)
    (of_decide_eq_true (by kernel_rfl)) (by unfold Func.isWrapper; rw [if_neg (of_decide_eq_false (by kernel_rfl))]; exact ⟨rfl, rfl⟩)
    (fun os started H enc _ => lifted4 os started H enc)
#print axioms wireDecodeMatchesSpec_holds
end Go.Proofs.Ytlihndekeaefcaa
