/- For every list of keys (nil too), whatever a site knows, every lease, epoch, period, clock and reading, the law LeaseHeldAsSpecified returns true, and changes nothing; the tables rounds and constants hold at the call what the program text lays there (tied). -/
import Derived.Test.YteblnmhaohbkkaaGreatDoorQHdL
import Derived.Test.YteblnmhaohbkkaaGreatDoorQF1
import Derived.Test.YteblnmhaohbkkaaGreatDoorQSLV
import Derived.Test.YteblnmhaohbkkaaGreatDoorTie
import Derived.Test.YteblnmhaohbkkaaGreatDoorCards
import Derived.SevenTiedAt
namespace Go.Proofs.YteblnmhaohbkkaaGreatDoor
set_option linter.unusedVariables false
set_option linter.unusedSimpArgs false
open Go Go.ChangeShapes Go.WideShapes Go.ChangeAt Go.RowKit Go.Joins Hs
set_option maxRecDepth 100000 in
set_option maxHeartbeats 1000000 in
theorem lifted3 (os : Os) (started : os.Started) (H : Type) (enc : TypeId × Value → H) :
    ReturnsInHanded {} Tryz.checked os 3 .any (fun w args => (Rows.leaseHeldAsSpecifiedSpec.pre enc Tryz.prog Tryz.f3 [] false w args ∧ laidMetH Tryz.prog laid2 w) ∧ sizedMet enc Tryz.prog Tryz.f3 (OpenSpec.ofChange Rows.leaseHeldAsSpecifiedSpec) false w args)
      (Rows.leaseHeldAsSpecifiedSpec.post enc Tryz.prog Tryz.f3 false true false false) := by
  refine returnsInHanded_of_change_and (C := Tryz.checked) (X := fun w _ => laidMetH Tryz.prog laid2 w) (fun _ _ _ hh h => h.of_heap hh) own started (by kernel_rfl) Tryz.func3
    (ChangeSpec.witness_shaped (enc := enc) (C := Tryz.checked) (os := os) (X := fun w _ => laidMetH Tryz.prog laid2 w) false (World.doorLaid Tryz.prog 400 os) #[.slice none 0 0, .agg #[.int .i64 0, .int .i64 0, .int .i64 0, .int .i64 0, .int .i64 0, .int .i64 0, .int .u8 0, .int .u8 0, .int .u8 0, .int .u8 0, .int .u8 0, .int .u8 0, .int .u8 0, .int .u8 0, .int .u8 0, .int .u8 0, .int .u8 0, .int .u8 0, .int .u8 0, .int .u8 0, .int .u8 0, .int .u8 0], .agg #[.int .i64 0, .int .i64 0, .int .i64 0, .int .i64 0, .int .u8 0, .int .u8 0, .int .u8 0, .int .u8 0, .int .u8 0, .int .u8 0, .int .u8 0, .int .u8 0, .int .u8 0, .int .u8 0, .int .u8 0, .int .u8 0, .int .u8 0, .int .u8 0, .int .u8 0, .int .u8 0], .int .i64 0, .agg #[.int .i64 0, .int .i64 0], .agg #[.int .i64 0, .int .i64 0, .int .i64 0, .int .i64 0], .int .i64 0] 8 rfl (World.shaped_of_RefB (by kernel_rfl) (by kernel_rfl)) (by kernel_rfl) (by kernel_rfl) (by kernel_rfl) (door_met2 os _)) ?_
  intro W base args ds gs before hval0 hW _ _ hL _
  have hval : ∀ (j : Nat) t v, Tryz.f3.params[j]? = some t → args[j]? = some v → Value.okWide Tryz.prog W .any base t v := hval0
  have hWh := hW
  obtain ⟨p, q, hA0, hV, rfl, hfz, hnd⟩ := hW
  have hA : DataW.TrodAll enc Tryz.prog W 0 (fun _ => true) true Tryz.f3.params.toList args.toList ds p := hA0
  rw [Tryz.params3] at hA hval
  obtain ⟨v0, vs0, d0, ds0, p0, q0, hargs0, rfl, rfl, h0, r0⟩ := trodAll_cons hA
  obtain ⟨v1, vs1, d1, ds1, p1, q1, hargs1, rfl, rfl, h1, r1⟩ := trodAll_cons r0
  subst hargs1
  obtain ⟨v2, vs2, d2, ds2, p2, q2, hargs2, rfl, rfl, h2, r2⟩ := trodAll_cons r1
  subst hargs2
  obtain ⟨v3, vs3, d3, ds3, p3, q3, hargs3, rfl, rfl, h3, r3⟩ := trodAll_cons r2
  subst hargs3
  obtain ⟨v4, vs4, d4, ds4, p4, q4, hargs4, rfl, rfl, h4, r4⟩ := trodAll_cons r3
  subst hargs4
  obtain ⟨v5, vs5, d5, ds5, p5, q5, hargs5, rfl, rfl, h5, r5⟩ := trodAll_cons r4
  subst hargs5
  obtain ⟨v6, vs6, d6, ds6, p6, q6, hargs6, rfl, rfl, h6, r6⟩ := trodAll_cons r5
  subst hargs6
  obtain ⟨hnl, rfl, rfl⟩ := trodAll_nil r6
  subst hnl
  obtain rfl : args = #[v0, v1, v2, v3, v4, v5, v6] := Array.toList_inj.1 hargs0
  obtain ⟨rfl, rfl⟩ := trodVars_none hV
  obtain ⟨aa, ca, rg, rfl, hp, hm⟩ := Le.open_ring (hval 0 22 v0 rfl rfl) h0
  obtain ⟨st, he, ls, le, lu, lr, S, rfl, hS⟩ := Le.open_held (hval 1 28 v1 rfl rfl) h1
  obtain ⟨xs, xe, un, sr, V, rfl, hV, o1, o2, o3, o4⟩ := Le.open_lease (hval 2 26 v2 rfl rfl) h2
  obtain ⟨ep, rfl, ep1, ep2⟩ := open_num (hval 3 3 v3 rfl rfl) h3
  obtain ⟨lo, hi, rfl, -, -⟩ := Le.open_period (hval 4 30 v4 rfl rfl) h4
  obtain ⟨cl, clo, chi, cd, rfl⟩ := Le.open_clock (hval 5 32 v5 rfl rfl) h5
  obtain ⟨x, rfl, x1, x2⟩ := open_num (hval 6 3 v6 rfl rfl) h6
  obtain ⟨hla, hlk⟩ := of_laid2 hL
  refine (Le.law3 aa ca rg st he ls le lu lr xs xe un sr ep lo hi cl clo chi cd x S V W hp hm hS hV o1 o2 o3 o4 hla hlk).mono fun e W' ⟨he, hb⟩ => ⟨_, he, law_post laidOut ?_ rfl Tryz.underlying4 rfl rfl rfl hWh hb⟩
  rw [Tryz.params3]
  exact fun t ht => ⟨(List.all_eq_true.1 (by kernel_rfl : [22, 28, 26, 3, 30, 32, 3].all (fun t => Tryz.prog.readableRec t) = true)) t ht, of_decide_eq_true ((List.all_eq_true.1 (by kernel_rfl : [22, 28, 26, 3, 30, 32, 3].all (fun t => decide (t < Tryz.prog.types.size)) = true)) t ht)⟩
theorem leaseHeldAsSpecified_row_holds : Rows.LeaseHeldAsSpecifiedSaid :=
  OpenClaim.holds_of_wide 3 Tryz.f3 rfl rfl rfl rfl rfl rfl rfl ⟨rfl, rfl, rfl, rfl, rfl⟩ rfl rfl rfl rfl rfl (by kernel_rfl) Tryz.func3 (by kernel_rfl)
    (of_decide_eq_true (by kernel_rfl)) (by unfold Func.isWrapper; first | (rw [if_pos (by decide +kernel)]; kernel_rfl) | (rw [if_neg (by decide +kernel)]; exact ⟨rfl, rfl⟩))
    (fun os started H enc _ => lifted3 os started H enc)
theorem leaseHeldAsSpecified_holds : Rows.LeaseHeldAsSpecifiedCardSaid :=
  Claim7.holds_tied_plain_at .later [] [.data, .data] true (true, "cd73d6facef243e9d310a13ab5980a790bdbc4e14684f303910f087e45d6e7bd") false
    leaseHeldAsSpecified_row_holds (fun _ h => by cases h) (by kernel_rfl) (fun _ h => by cases h) leaseHeldAsSpecified_row_tie rfl ⟨rfl, rfl⟩ (by kernel_rfl) rfl
    (fun f fn hf hfn => by
      obtain rfl : f = 3 := Option.some.inj ((show Tryz.prog.funcNamed "weirgate/weirgatelaw30.LeaseHeldAsSpecified" = some 3 by kernel_rfl).symm.trans hf) |>.symm
      obtain rfl : fn = Tryz.f3 := (Option.some.inj (Tryz.func3.symm.trans hfn)).symm
      exact ⟨by kernel_rfl, fun j t ht => by
        rw [Tryz.params3] at ht
        have hm : t ∈ [22, 28, 26, 3, 30, 32, 3] := by simpa using Array.mem_of_getElem? ht
        have hall : ([22, 28, 26, 3, 30, 32, 3].all fun u => !Tryz.prog.wantsStandIn u) = true := by kernel_rfl
        exact (show Tryz.prog.wantsStandIn t = false by simpa using List.all_eq_true.1 hall t hm)⟩)
    (by kernel_rfl)
#print axioms leaseHeldAsSpecified_holds
end Go.Proofs.YteblnmhaohbkkaaGreatDoor
