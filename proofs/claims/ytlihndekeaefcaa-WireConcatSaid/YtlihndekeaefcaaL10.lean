/- For every string and slice of numbers (nil too), the law WireConcat returns true, and changes nothing. No condition. -/
import Derived.Test.YtlihndekeaefcaaP10
import Derived.Test.YtlihndekeaefcaaO
import Derived.ProofKit
import Derived.Carry
namespace Go.Proofs.Ytlihndekeaefcaa
set_option linter.unusedVariables false
set_option linter.unusedSimpArgs false
open Go.ChangeShapes Go.WideShapes Go.ChangeAt Go.RowKit Go.Joins
set_option maxRecDepth 100000 in
theorem lifted10 (os : Os) (started : os.Started) (H : Type) (enc : TypeId × Value → H) :
    ReturnsInHanded {} Try.checked os 10 .any (Rows.wireConcatSpec.pre6 enc Try.prog Try.f10 Rows.wireConcatRow.domain false) (Rows.wireConcatSpec.post enc Try.prog Try.f10 false true false false) := by
  refine returnsInHanded_of_change_sized (C := Try.checked) own started (by kernel_rfl) Try.func10
    (ChangeSpec.witness6 (enc := enc) (C := Try.checked) false ⟨#[], #[.string ByteArray.empty, .slice none 0 0], []⟩ 8 (by kernel_rfl) (by kernel_rfl) (by kernel_rfl) (by kernel_rfl)) ?_
  intro W base args ds gs before hval0 hW hcnd hz _
  have hval : ∀ (j : Nat) t v, Try.f10.params[j]? = some t → args[j]? = some v → Value.okWide Try.prog W .any base t v := hval0
  have hWh := hW
  obtain ⟨p, q, hA0, hV, rfl, hfz, hnd⟩ := hW
  have hA : DataW.TrodAll enc Try.prog W 0 (fun _ => true) true Try.f10.params.toList args.toList ds p := hA0
  rw [Try.params10] at hA hval
  obtain ⟨v0, v1, d0, d1, p0, p1, rfl, rfl, rfl, h0, h1⟩ := trodAll_two hA
  obtain ⟨rfl, rfl⟩ := trodVars_none hV
  obtain ⟨s, rfl, rfl, sm⟩ := open_str (hval 0 9 v0 rfl rfl) h0
  obtain ⟨a, cap, l, rfl, lc, lh, lm, ld⟩ := open_nums (hval 1 22 v1 rfl rfl) h1
  have z0 := sized_string hz (j := 0) (t := 9) (by rw [Try.params10]; rfl) rfl
  rw [Array.length_toList, show s.data.size = s.size from rfl] at z0
  have z1 : l.length ≤ 9223372036854775807 - 140737488355328 := by
    rcases ld with e | ⟨el, sp, rfl, e⟩
    · omega
    · have z1 := sized_slice hz (j := 1) (t := 22) (by rw [Try.params10]; rfl) rfl Try.underlying22
      rw [show Try.checked.prog.bytesOf 3 = 8 by kernel_rfl] at z1
      unfold reachBytes at z1
      omega
  unfold reachBytes at z0
  refine (concat s a cap l W lh (by omega)).mono fun e W' ⟨he, hb⟩ => ⟨_, he, law_post laidOut ?_ rfl Try.underlying4 rfl rfl rfl hWh hb⟩
  rw [Try.params10]
  exact fun t ht => ⟨(List.all_eq_true.1 (by kernel_rfl : [9, 22].all (fun t => Try.prog.readableRec t) = true)) t ht, of_decide_eq_true ((List.all_eq_true.1 (by kernel_rfl : [9, 22].all (fun t => decide (t < Try.prog.types.size)) = true)) t ht)⟩
theorem wireConcat_holds : Rows.WireConcatSaid :=
  OpenClaim.holds_of_wide 10 Try.f10 rfl rfl rfl rfl rfl rfl rfl ⟨rfl, rfl, rfl, rfl, rfl⟩ rfl rfl rfl rfl rfl (by kernel_rfl) Try.func10 (by kernel_rfl)
    (of_decide_eq_true (by kernel_rfl)) (by unfold Func.isWrapper; rw [if_neg (of_decide_eq_false (by kernel_rfl))]; exact ⟨rfl, rfl⟩)
    (fun os started H enc _ => lifted10 os started H enc)
#print axioms wireConcat_holds
end Go.Proofs.Ytlihndekeaefcaa
