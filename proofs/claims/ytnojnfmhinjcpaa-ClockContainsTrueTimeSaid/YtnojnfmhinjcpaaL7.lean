/- For every base, list of paces, drift, period, instant, and lists of steps and widths (nil too), the law ClockContainsTrueTime returns true, and changes nothing. No condition. -/
import Derived.Test.YtnojnfmhinjcpaaJ
import Derived.Test.YtnojnfmhinjcpaaC7
import Derived.Test.YtnojnfmhinjcpaaO2
import Derived.ProofKit
import Derived.Carry
namespace Go.Proofs.Ytnojnfmhinjcpaa
set_option linter.unusedVariables false
set_option linter.unusedSimpArgs false
open Go.ChangeShapes Go.WideShapes Go.ChangeAt Go.RowKit Go.Joins
theorem sane (W : World) : Sane W := sanity_of W show_sample
set_option maxRecDepth 100000 in
theorem lifted7 (os : Os) (started : os.Started) (H : Type) (enc : TypeId × Value → H) :
    ReturnsInHanded {} Try.checked os 7 .any (Rows.clockContainsTrueTimeSpec.pre6 enc Try.prog Try.f7 Rows.clockContainsTrueTimeRow.domain false) (Rows.clockContainsTrueTimeSpec.post enc Try.prog Try.f7 false true false false) := by
  refine returnsInHanded_of_change (C := Try.checked) own started (by kernel_rfl) Try.func7
    (ChangeSpec.witness6 (enc := enc) (C := Try.checked) false ⟨#[], #[.int .i64 0, .slice none 0 0, .int .i64 0, per 0 0, .int .i64 0, .slice none 0 0, .slice none 0 0], []⟩ 8 (by kernel_rfl) (by kernel_rfl) (by kernel_rfl) (by kernel_rfl)) ?_
  intro W base args ds gs before hval0 hW hcnd _
  have hval : ∀ (j : Nat) t v, Try.f7.params[j]? = some t → args[j]? = some v → Value.okWide Try.prog W .any base t v := hval0
  have hWh := hW
  obtain ⟨p, q, hA0, hV, rfl, hfz, hnd⟩ := hW
  have hA : DataW.TrodAll enc Try.prog W 0 (fun _ => true) true Try.f7.params.toList args.toList ds p := hA0
  rw [Try.params7] at hA hval
  obtain ⟨v0, vs0, d0, ds0, p0, q0, hargs0, rfl, rfl, h0, r0⟩ := trodAll_cons hA
  obtain ⟨v1, vs1, d1, ds1, p1, q1, hargs1, rfl, rfl, h1, r1⟩ := trodAll_cons r0
  subst hargs1
  obtain ⟨v2, vs2, d2, ds2, p2, q2, hargs2, rfl, rfl, h2, r2⟩ := trodAll_cons r1
  subst hargs2
  obtain ⟨v3, vs3, d3, ds3, p3, q3, hargs3, rfl, rfl, h3, r3⟩ := trodAll_cons r2
  subst hargs3
  obtain ⟨v4, vs4, d4, ds4, p4, q4, hargs4, rfl, rfl, h4, r4⟩ := trodAll_cons r3
  subst hargs4
  obtain ⟨v5, vs5, d5, ds5, p5, q5, hargs5, rfl, rfl, h5, r5⟩ := trodAll_cons r4
  subst hargs5
  obtain ⟨v6, vs6, d6, ds6, p6, q6, hargs6, rfl, rfl, h6, r6⟩ := trodAll_cons r5
  subst hargs6
  obtain ⟨hz, rfl, rfl⟩ := trodAll_nil r6
  subst hz
  obtain rfl : args = #[v0, v1, v2, v3, v4, v5, v6] := Array.toList_inj.1 hargs0
  obtain ⟨rfl, rfl⟩ := trodVars_none hV
  obtain ⟨b, rfl, wb⟩ := open_num (hval 0 3 v0 rfl rfl) h0
  obtain ⟨a, cap, ps, rfl, hps, hpm⟩ := open_paces (hval 1 55 v1 rfl rfl) h1
  obtain ⟨dr, rfl, wdr⟩ := open_num (hval 2 3 v2 rfl rfl) h2
  obtain ⟨x, y, rfl, wx, wy⟩ := open_per (hval 3 23 v3 rfl rfl) h3
  obtain ⟨s, rfl, ws⟩ := open_num (hval 4 3 v4 rfl rfl) h4
  obtain ⟨a2, cap2, st, rfl, hst, hsm⟩ := open_nums Try.underlying63 Try.underlying77 cells77 (hval 5 63 v5 rfl rfl) h5
  obtain ⟨a3, cap3, wd, rfl, hwd, hwm⟩ := open_nums Try.underlying64 Try.underlying78 cells78 (hval 6 64 v6 rfl rfl) h6
  refine (containsTrueTime b dr x y s a cap ps a2 cap2 st a3 cap3 wd W sane hps hpm hst hsm hwd hwm).mono fun e W' ⟨he, hb⟩ => ⟨_, he, law_post laidOut ?_ rfl Try.underlying4 rfl rfl rfl hWh hb⟩
  rw [Try.params7]
  exact fun t ht => ⟨(List.all_eq_true.1 (by kernel_rfl : [3, 55, 3, 23, 3, 63, 64].all (fun t => Try.prog.readableRec t) = true)) t ht, of_decide_eq_true ((List.all_eq_true.1 (by kernel_rfl : [3, 55, 3, 23, 3, 63, 64].all (fun t => decide (t < Try.prog.types.size)) = true)) t ht)⟩
theorem clockContainsTrueTime_holds : Rows.ClockContainsTrueTimeSaid :=
  OpenClaim.holds_of_wide 7 Try.f7 rfl rfl rfl rfl rfl rfl rfl ⟨rfl, rfl, rfl, rfl, rfl⟩ rfl rfl rfl rfl rfl (by kernel_rfl) Try.func7 (by kernel_rfl)
    (of_decide_eq_true (by kernel_rfl)) (by unfold Func.isWrapper; rw [if_neg (of_decide_eq_false (by kernel_rfl))]; exact ⟨rfl, rfl⟩)
    (fun os started H enc _ => lifted7 os started H enc)
#print axioms clockContainsTrueTime_holds
end Go.Proofs.Ytnojnfmhinjcpaa
