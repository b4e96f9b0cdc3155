/- For every ring, valid or not (nil too), every byte, every text, every stamp, epoch, lease and head, the law SealAcceptsItsOwn returns true, and changes nothing; the table rounds holds at the call what the program text lays there (tied). -/
import Derived.Test.YtcdcnklfcmoiiaaDoorQS8D
import Derived.Test.YtcdcnklfcmoiiaaDoorQO1
import Derived.Test.YtcdcnklfcmoiiaaDoorQLV
import Derived.Test.YtcdcnklfcmoiiaaDoorTie
import Derived.Test.YtcdcnklfcmoiiaaDoorCards
import Derived.SevenTiedAt
namespace Go.Proofs.YtcdcnklfcmoiiaaDoor
set_option linter.unusedVariables false
set_option linter.unusedSimpArgs false
open Go Go.ChangeShapes Go.WideShapes Go.ChangeAt Go.RowKit Go.Joins Hs
set_option maxRecDepth 100000 in
set_option maxHeartbeats 1000000 in
theorem lifted8 (os : Os) (started : os.Started) (H : Type) (enc : TypeId × Value → H) :
    ReturnsInHanded {} Tryd.checked os 8 .any (fun w args => (Rows.sealAcceptsItsOwnSpec.pre enc Tryd.prog Tryd.f8 [] false w args ∧ laidMetH Tryd.prog laid1 w) ∧ sizedMet enc Tryd.prog Tryd.f8 (OpenSpec.ofChange Rows.sealAcceptsItsOwnSpec) false w args)
      (Rows.sealAcceptsItsOwnSpec.post enc Tryd.prog Tryd.f8 false true false false) := by
  refine returnsInHanded_of_change_and (C := Tryd.checked) (X := fun w _ => laidMetH Tryd.prog laid1 w) (fun _ _ _ hh h => h.of_heap hh) own started (by kernel_rfl) Tryd.func8
    (ChangeSpec.witness_shaped (enc := enc) (C := Tryd.checked) (os := os) (X := fun w _ => laidMetH Tryd.prog laid1 w) false (World.doorLaid Tryd.prog 400 os) #[.slice none 0 0, .int .u8 0, .string ⟨#[]⟩, .agg #[.string ⟨#[]⟩, .string ⟨#[]⟩, .int .i64 0, .int .i64 0, .int .u8 0, .int .u8 0, .int .u8 0, .int .u8 0, .int .u8 0, .int .u8 0, .int .u8 0, .int .u8 0, .int .u8 0, .int .u8 0, .int .u8 0, .int .u8 0, .int .u8 0, .int .u8 0, .int .u8 0, .int .u8 0, .string ⟨#[]⟩, .int .i64 0, .int .i64 0, .int .i64 0, .int .i64 0, .int .u8 0, .int .u8 0, .int .u8 0, .int .u8 0, .int .u8 0, .int .u8 0, .int .u8 0, .int .u8 0, .int .u8 0, .int .u8 0, .int .u8 0, .int .u8 0, .int .u8 0, .int .u8 0, .int .u8 0, .int .u8 0], .agg #[.int .i64 0, .int .u8 0, .int .u8 0, .int .u8 0, .int .u8 0, .int .u8 0, .int .u8 0, .int .u8 0, .int .u8 0, .int .u8 0, .int .u8 0, .int .u8 0, .int .u8 0, .int .u8 0, .int .u8 0, .int .u8 0, .int .u8 0, .int .i64 0, .int .i64 0, .slice none 0 0, .slice none 0 0, .int .i64 0, .int .u8 0, .int .u8 0, .int .u8 0, .int .u8 0, .int .u8 0, .int .u8 0, .int .u8 0, .int .u8 0, .int .u8 0, .int .u8 0, .int .u8 0, .int .u8 0, .int .u8 0, .int .u8 0, .int .u8 0, .int .u8 0], .agg #[.int .i64 0, .int .i64 0, .int .i64 0, .int .i64 0, .int .u8 0, .int .u8 0, .int .u8 0, .int .u8 0, .int .u8 0, .int .u8 0, .int .u8 0, .int .u8 0, .int .u8 0, .int .u8 0, .int .u8 0, .int .u8 0, .int .u8 0, .int .u8 0, .int .u8 0, .int .u8 0], .agg #[.int .i64 0, .int .i64 0, .int .u8 0, .int .u8 0, .int .u8 0, .int .u8 0, .int .u8 0, .int .u8 0, .int .u8 0, .int .u8 0, .int .u8 0, .int .u8 0, .int .u8 0, .int .u8 0, .int .u8 0, .int .u8 0, .int .u8 0, .int .u8 0, .int .i64 0, .int .i64 0, .int .i64 0, .int .u8 0, .int .u8 0, .int .u8 0, .int .u8 0, .int .u8 0, .int .u8 0, .int .u8 0, .int .u8 0, .int .u8 0, .int .u8 0, .int .u8 0, .int .u8 0, .int .u8 0, .int .u8 0, .int .u8 0, .int .u8 0]] 8 rfl (World.shaped_of_RefB (by kernel_rfl) (by kernel_rfl)) (by kernel_rfl) (by kernel_rfl) (by kernel_rfl) (door_met1 os _)) ?_
  intro W base args ds gs before hval0 hW _ _ hL _
  have hval : ∀ (j : Nat) t v, Tryd.f8.params[j]? = some t → args[j]? = some v → Value.okWide Tryd.prog W .any base t v := hval0
  have hWh := hW
  obtain ⟨p, q, hA0, hV, rfl, hfz, hnd⟩ := hW
  have hA : DataW.TrodAll enc Tryd.prog W 0 (fun _ => true) true Tryd.f8.params.toList args.toList ds p := hA0
  rw [Tryd.params8] at hA hval
  obtain ⟨v0, vs0, d0, ds0, p0, q0, hargs0, rfl, rfl, h0, r0⟩ := trodAll_cons hA
  obtain ⟨v1, vs1, d1, ds1, p1, q1, hargs1, rfl, rfl, h1, r1⟩ := trodAll_cons r0
  subst hargs1
  obtain ⟨v2, vs2, d2, ds2, p2, q2, hargs2, rfl, rfl, h2, r2⟩ := trodAll_cons r1
  subst hargs2
  obtain ⟨v3, vs3, d3, ds3, p3, q3, hargs3, rfl, rfl, h3, r3⟩ := trodAll_cons r2
  subst hargs3
  obtain ⟨v4, vs4, d4, ds4, p4, q4, hargs4, rfl, rfl, h4, r4⟩ := trodAll_cons r3
  subst hargs4
  obtain ⟨v5, vs5, d5, ds5, p5, q5, hargs5, rfl, rfl, h5, r5⟩ := trodAll_cons r4
  subst hargs5
  obtain ⟨v6, vs6, d6, ds6, p6, q6, hargs6, rfl, rfl, h6, r6⟩ := trodAll_cons r5
  subst hargs6
  obtain ⟨hnl, rfl, rfl⟩ := trodAll_nil r6
  subst hnl
  obtain rfl : args = #[v0, v1, v2, v3, v4, v5, v6] := Array.toList_inj.1 hargs0
  obtain ⟨rfl, rfl⟩ := trodVars_none hV
  obtain ⟨aa, ca, l, rfl, hp, hm⟩ := open_ring (hval 0 22 v0 rfl rfl) h0
  obtain ⟨qb, rfl, hq8⟩ := open_byte (hval 1 5 v1 rfl rfl) h1
  obtain ⟨oth, rfl, -⟩ := open_str (hval 2 9 v2 rfl rfl) h2
  obtain ⟨ad, va, tg, st, sz, ga, se, lo, hi, B, S, rfl, hB, hb1, hS, -, hst, hsz, hga, hse, hlo, hhi⟩ := open_stamp (hval 3 58 v3 rfl rfl) h3
  obtain ⟨nu, se2, lo2, hi2, B2, S2, pa, pc, pl, ra, rc, rl, rfl, hB2, hb2, hS2, -, hnu, hse2, hlo2, hhi2, hmm, lP, lR, hq⟩ := open_epoch (hval 4 62 v4 rfl rfl) h4
  obtain ⟨lst, lep, lun, lre, S3, rfl, hS3, -, hlst, hlep, hlun, hlre⟩ := open_lease (hval 5 64 v5 rfl rfl) h5
  obtain ⟨si, sz4, se4, lo4, hi4, B4, S4, rfl, hB4, hb4, hS4, -, hsi, hsz4, hse4, hlo4, hhi4⟩ := open_head (hval 6 66 v6 rfl rfl) h6
  have hla := of_laid1 hL
  refine (law8 aa ca l qb oth ad va tg st sz lo hi ga se B S nu lo2 hi2 se2 B2 S2 pa pc pl ra rc rl lst lep lun lre S3 si sz4 lo4 hi4 se4 B4 S4 W hp hm hq8 hB hb1 hS hst hsz hlo hhi hga hse hB2 hb2 hS2 hnu hlo2 hhi2 hse2 hmm lP lR hq hS3 hlst hlep hlun hlre hB4 hb4 hS4 hsi hsz4 hlo4 hhi4 hse4 hla).mono fun e W' ⟨he, hb⟩ => ⟨_, he, law_post laidOut ?_ rfl Tryd.underlying4 rfl rfl rfl hWh hb⟩
  rw [Tryd.params8]
  exact fun t ht => ⟨(List.all_eq_true.1 (by kernel_rfl : [22, 5, 9, 58, 62, 64, 66].all (fun t => Tryd.prog.readableRec t) = true)) t ht, of_decide_eq_true ((List.all_eq_true.1 (by kernel_rfl : [22, 5, 9, 58, 62, 64, 66].all (fun t => decide (t < Tryd.prog.types.size)) = true)) t ht)⟩
theorem sealAcceptsItsOwn_row_holds : Rows.SealAcceptsItsOwnSaid :=
  OpenClaim.holds_of_wide 8 Tryd.f8 rfl rfl rfl rfl rfl rfl rfl ⟨rfl, rfl, rfl, rfl, rfl⟩ rfl rfl rfl rfl rfl (by kernel_rfl) Tryd.func8 (by kernel_rfl)
    (of_decide_eq_true (by kernel_rfl)) (by unfold Func.isWrapper; first | (rw [if_pos (by decide +kernel)]; kernel_rfl) | (rw [if_neg (by decide +kernel)]; exact ⟨rfl, rfl⟩))
    (fun os started H enc _ => lifted8 os started H enc)
theorem sealAcceptsItsOwn_holds : Rows.SealAcceptsItsOwnCardSaid :=
  Claim7.holds_tied_plain_at .later [] [.data] true (true, "ee1f5c29c68a5abd670426e5c8f11fc594274be67f31209ea8960626f1f9e722") false
    sealAcceptsItsOwn_row_holds (fun _ h => by cases h) (by kernel_rfl) (fun _ h => by cases h) sealAcceptsItsOwn_row_tie rfl ⟨rfl, rfl⟩ (by kernel_rfl) rfl
    (fun f fn hf hfn => by
      obtain rfl : f = 8 := Option.some.inj ((show Tryd.prog.funcNamed "weirgate/weirgatelaw04.SealAcceptsItsOwn" = some 8 by kernel_rfl).symm.trans hf) |>.symm
      obtain rfl : fn = Tryd.f8 := (Option.some.inj (Tryd.func8.symm.trans hfn)).symm
      exact ⟨by kernel_rfl, fun j t ht => by
        rw [Tryd.params8] at ht
        have hm : t ∈ [22, 5, 9, 58, 62, 64, 66] := by simpa using Array.mem_of_getElem? ht
        have hall : ([22, 5, 9, 58, 62, 64, 66].all fun u => !Tryd.prog.wantsStandIn u) = true := by kernel_rfl
        exact (show Tryd.prog.wantsStandIn t = false by simpa using List.all_eq_true.1 hall t hm)⟩)
    (by kernel_rfl)
#print axioms sealAcceptsItsOwn_holds
end Go.Proofs.YtcdcnklfcmoiiaaDoor
