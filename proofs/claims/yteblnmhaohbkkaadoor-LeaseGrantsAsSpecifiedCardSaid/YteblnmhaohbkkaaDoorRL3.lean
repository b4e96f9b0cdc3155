/- For all grants, valid or not (their rows nil too), every key, all numbers and every period, the law LeaseGrantsAsSpecified returns true, and changes nothing; the tables rounds and constants hold at the call what the program text lays there (tied). -/
import Derived.Test.YteblnmhaohbkkaaDoorRLeL
import Derived.Test.YteblnmhaohbkkaaDoorRLeE
import Derived.Test.YteblnmhaohbkkaaDoorRSLV
import Derived.Test.YteblnmhaohbkkaaDoorTie
import Derived.Test.YteblnmhaohbkkaaDoorCards
import Derived.SevenTiedAt
namespace Go.Proofs.YteblnmhaohbkkaaDoor
set_option linter.unusedVariables false
set_option linter.unusedSimpArgs false
open Go Go.ChangeShapes Go.WideShapes Go.ChangeAt Go.RowKit Go.Joins Hs
set_option maxRecDepth 100000 in
set_option maxHeartbeats 1000000 in
theorem lifted3 (os : Os) (started : os.Started) (H : Type) (enc : TypeId × Value → H) :
    ReturnsInHanded {} Tryd.checked os 3 .any (fun w args => (Rows.leaseGrantsAsSpecifiedSpec.pre enc Tryd.prog Tryd.f3 [] false w args ∧ laidMetH Tryd.prog laid2 w) ∧ sizedMet enc Tryd.prog Tryd.f3 (OpenSpec.ofChange Rows.leaseGrantsAsSpecifiedSpec) false w args)
      (Rows.leaseGrantsAsSpecifiedSpec.post enc Tryd.prog Tryd.f3 false true false false) := by
  refine returnsInHanded_of_change_and (C := Tryd.checked) (X := fun w _ => laidMetH Tryd.prog laid2 w) (fun _ _ _ hh h => h.of_heap hh) own started (by kernel_rfl) Tryd.func3
    (ChangeSpec.witness_shaped (enc := enc) (C := Tryd.checked) (os := os) (X := fun w _ => laidMetH Tryd.prog laid2 w) false (World.doorLaid Tryd.prog 400 os) #[.agg #[.int .i64 0, .int .i64 0, .slice none 0 0], .agg #[.int .i64 0, .int .i64 0, .string ⟨#[]⟩, .int .i64 0, .int .i64 0], .int .i64 0, .int .i64 0, .agg #[.int .i64 0, .int .i64 0], .int .i64 0] 8 rfl (World.shaped_of_RefB (by kernel_rfl) (by kernel_rfl)) (by kernel_rfl) (by kernel_rfl) (by kernel_rfl) (door_met2 os _)) ?_
  intro W base args ds gs before hval0 hW _ _ hL _
  have hval : ∀ (j : Nat) t v, Tryd.f3.params[j]? = some t → args[j]? = some v → Value.okWide Tryd.prog W .any base t v := hval0
  have hWh := hW
  obtain ⟨p, q, hA0, hV, rfl, hfz, hnd⟩ := hW
  have hA : DataW.TrodAll enc Tryd.prog W 0 (fun _ => true) true Tryd.f3.params.toList args.toList ds p := hA0
  rw [Tryd.params3] at hA hval
  obtain ⟨v0, vs0, d0, ds0, p0, q0, hargs0, rfl, rfl, h0, r0⟩ := trodAll_cons hA
  obtain ⟨v1, vs1, d1, ds1, p1, q1, hargs1, rfl, rfl, h1, r1⟩ := trodAll_cons r0
  subst hargs1
  obtain ⟨v2, vs2, d2, ds2, p2, q2, hargs2, rfl, rfl, h2, r2⟩ := trodAll_cons r1
  subst hargs2
  obtain ⟨v3, vs3, d3, ds3, p3, q3, hargs3, rfl, rfl, h3, r3⟩ := trodAll_cons r2
  subst hargs3
  obtain ⟨v4, vs4, d4, ds4, p4, q4, hargs4, rfl, rfl, h4, r4⟩ := trodAll_cons r3
  subst hargs4
  obtain ⟨v5, vs5, d5, ds5, p5, q5, hargs5, rfl, rfl, h5, r5⟩ := trodAll_cons r4
  subst hargs5
  obtain ⟨hnl, rfl, rfl⟩ := trodAll_nil r5
  subst hnl
  obtain rfl : args = #[v0, v1, v2, v3, v4, v5] := Array.toList_inj.1 hargs0
  obtain ⟨rfl, rfl⟩ := trodVars_none hV
  obtain ⟨la, mo, aa, ca, l, rfl, hp, hm, -, -⟩ := Le.open_grants (hval 0 24 v0 rfl rfl) h0
  obtain ⟨k1, k2, k3, k4, k5, rfl⟩ := Le.open_key (hval 1 26 v1 rfl rfl) h1
  obtain ⟨n, rfl, n1, n2⟩ := open_num (hval 2 3 v2 rfl rfl) h2
  obtain ⟨ep, rfl, ep1, ep2⟩ := open_num (hval 3 3 v3 rfl rfl) h3
  obtain ⟨lo, hi, rfl, -, -⟩ := Le.open_period (hval 4 28 v4 rfl rfl) h4
  obtain ⟨len, rfl, len1, len2⟩ := open_num (hval 5 3 v5 rfl rfl) h5
  obtain ⟨hla, hlk⟩ := of_laid2 hL
  refine (Le.law3 la mo aa ca l k1 k2 k3 k4 k5 n ep lo hi len W hp hm hla hlk).mono fun e W' ⟨he, hb⟩ => ⟨_, he, law_post laidOut ?_ rfl Tryd.underlying4 rfl rfl rfl hWh hb⟩
  rw [Tryd.params3]
  exact fun t ht => ⟨(List.all_eq_true.1 (by kernel_rfl : [24, 26, 3, 3, 28, 3].all (fun t => Tryd.prog.readableRec t) = true)) t ht, of_decide_eq_true ((List.all_eq_true.1 (by kernel_rfl : [24, 26, 3, 3, 28, 3].all (fun t => decide (t < Tryd.prog.types.size)) = true)) t ht)⟩
theorem leaseGrantsAsSpecified_row_holds : Rows.LeaseGrantsAsSpecifiedSaid :=
  OpenClaim.holds_of_wide 3 Tryd.f3 rfl rfl rfl rfl rfl rfl rfl ⟨rfl, rfl, rfl, rfl, rfl⟩ rfl rfl rfl rfl rfl (by kernel_rfl) Tryd.func3 (by kernel_rfl)
    (of_decide_eq_true (by kernel_rfl)) (by unfold Func.isWrapper; first | (rw [if_pos (by decide +kernel)]; kernel_rfl) | (rw [if_neg (by decide +kernel)]; exact ⟨rfl, rfl⟩))
    (fun os started H enc _ => lifted3 os started H enc)
theorem leaseGrantsAsSpecified_holds : Rows.LeaseGrantsAsSpecifiedCardSaid :=
  Claim7.holds_tied_plain_at .later [] [.data, .data] true (true, "f8e2b6d5db976d2b85982ac41b63eaec06be9f38586daa49d70451526b4b3b54") false
    leaseGrantsAsSpecified_row_holds (fun _ h => by cases h) (by kernel_rfl) (fun _ h => by cases h) leaseGrantsAsSpecified_row_tie rfl ⟨rfl, rfl⟩ (by kernel_rfl) rfl
    (fun f fn hf hfn => by
      obtain rfl : f = 3 := Option.some.inj ((show Tryd.prog.funcNamed "weirgate/weirgatelaw30.LeaseGrantsAsSpecified" = some 3 by kernel_rfl).symm.trans hf) |>.symm
      obtain rfl : fn = Tryd.f3 := (Option.some.inj (Tryd.func3.symm.trans hfn)).symm
      exact ⟨by kernel_rfl, fun j t ht => by
        rw [Tryd.params3] at ht
        have hm : t ∈ [24, 26, 3, 3, 28, 3] := by simpa using Array.mem_of_getElem? ht
        have hall : ([24, 26, 3, 3, 28, 3].all fun u => !Tryd.prog.wantsStandIn u) = true := by kernel_rfl
        exact (show Tryd.prog.wantsStandIn t = false by simpa using List.all_eq_true.1 hall t hm)⟩)
    (by kernel_rfl)
#print axioms leaseGrantsAsSpecified_holds
end Go.Proofs.YteblnmhaohbkkaaDoor
