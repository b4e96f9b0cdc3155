/- Contracts: law 7 of chapter 4, whole. -/
import Derived.Test.YtcdcnklfcmoiiaaDoorQS7
namespace Go.Proofs.YtcdcnklfcmoiiaaDoor
set_option linter.unusedVariables false
set_option linter.unusedSimpArgs false
open Go.RowKit Go.Sort
theorem chk_out {l : List Rw} (ok : RingOk l) (r : Int) (t : Nat) (P : List ByteArray) (D : List Nat) (U : Int) (hU : U < 0 ∨ 1099511627776 ≤ U) : chkE l 1 r t P D U U = if hasC (cR 1 r) l = true then 9 else 5 := by
  unfold chkE
  by_cases hh : hasC (cR 1 r) l = true
  · rw [if_pos hh, if_pos hh, if_neg]
    obtain ⟨z1, -⟩ := find_yes hh
    have hk : keyOk (findL l 1 r) := by rw [z1]; exact ok.keys _ ((hasC_iff _ _).1 hh).1
    unfold countsB
    unfold keyOk at hk
    intro q
    have q := of_decide_eq_true q
    unfold countsP at q
    omega
  · rw [if_neg hh, if_neg hh]
theorem law7 (a : Option Addr) (c : Nat) (l : List Rw) (ad va tg : ByteArray) (st sz lo hi ga se : Int) (B S : List Nat) (nu lo2 hi2 se2 : Int) (B2 S2 : List Nat) (pa : Option Addr) (pc : Nat) (pl : List Pu) (ra : Option Addr) (rc : Nat) (rl : List Dg) (s3 e3 u3 r3 : Int) (S3 : List Nat) (si sz4 lo4 hi4 se4 : Int) (B4 S4 : List Nat) (w : World) (hp : RwA w a l) (hm : l.length ≤ 9223372036854775807) (hB : B.length = 16) (hb : ∀ x ∈ B, x < 256) (hS : S.length = 16) (hst : i64Ok st) (hsz : i64Ok sz) (hlo : i64Ok lo) (hhi : i64Ok hi) (hga : i64Ok ga) (hse : i64Ok se) (hB2 : B2.length = 16) (hb2 : ∀ x ∈ B2, x < 256) (hS2 : S2.length = 16) (hnu : i64Ok nu) (hlo2 : i64Ok lo2) (hhi2 : i64Ok hi2) (hse2 : i64Ok se2) (hmm : EpM w pa pl ra rl) (lP : pl.length ≤ 9223372036854775807) (lR : rl.length ≤ 9223372036854775807) (hq : ∀ x ∈ pl, i64Ok x.1) (hS3 : S3.length = 16) (hs3 : i64Ok s3) (he3 : i64Ok e3) (hu3 : i64Ok u3) (hr3 : i64Ok r3) (hB4 : B4.length = 16) (hb4 : ∀ x ∈ B4, x < 256) (hS4 : S4.length = 16) (hsi : i64Ok si) (hsz4 : i64Ok sz4) (hlo4 : i64Ok lo4) (hhi4 : i64Ok hi4) (hse4 : i64Ok se4) (hla : Hs.LaidC w) (hlk : Hs.LaidK w) :
    Calls Tryd.prog 7 #[.slice a l.length c, .agg (recC [.string ad, .string va, .int .i64 st, .int .i64 sz] B [.string tg, .int .i64 lo, .int .i64 hi, .int .i64 ga, .int .i64 se] S), .agg (recC [.int .i64 nu] B2 [.int .i64 lo2, .int .i64 hi2, .slice pa pl.length pc, .slice ra rl.length rc, .int .i64 se2] S2), .agg (leaseC s3 e3 u3 r3 S3), .agg (recC [.int .i64 si, .int .i64 sz4] B4 [.int .i64 lo4, .int .i64 hi4, .int .i64 se4] S4)] w fun e w' => e = .returned (.bool true) ∧ Below w.heap.size w w' := by
  have IA : (Tryd.prog.info? 58).map (·.size) = some (recC [.string ad, .string va, .int .i64 st, .int .i64 sz] B [.string tg, .int .i64 lo, .int .i64 hi, .int .i64 ga, .int .i64 se] S).size := by rw [rec_size _ _ _ _ hB hS]; kernel_rfl
  have IB : (Tryd.prog.info? 62).map (·.size) = some (recC [.int .i64 nu] B2 [.int .i64 lo2, .int .i64 hi2, .slice pa pl.length pc, .slice ra rl.length rc, .int .i64 se2] S2).size := by rw [rec_size _ _ _ _ hB2 hS2]; kernel_rfl
  have IC : (Tryd.prog.info? 64).map (·.size) = some (leaseC s3 e3 u3 r3 S3).size := by rw [lease_size _ _ _ _ _ hS3]; kernel_rfl
  have ID : (Tryd.prog.info? 66).map (·.size) = some (recC [.int .i64 si, .int .i64 sz4] B4 [.int .i64 lo4, .int .i64 hi4, .int .i64 se4] S4).size := by rw [rec_size _ _ _ _ hB4 hS4]; kernel_rfl
  have SS := fun X : World => shortStamp_any ad va tg st sz lo hi ga se B S X hB
  have SP := fun (X : World) (h : EpM X pa pl ra rl) => shortEpoch_any nu lo2 hi2 se2 B2 S2 pa pc pl ra rc rl X hB2 h lP lR
  have hM := fun (X : World) (hb : Below w.heap.size w X) => hmm.mono hb
  by_cases h : 30 < l.length
  · exact law7_many a c l _ _ _ _ _ _ (fun X => EpM X pa pl ra rl) w hp hm hM IA IB IC ID SS SP hla hlk h
  · cases hr : ringB l with
    | false => exact law7_noring a c l _ _ _ _ _ _ (fun X => EpM X pa pl ra rl) w hp hm hM IA IB IC ID SS SP hla hlk h hr
    | true =>
      cases hsa : shortB [ad, va, tg] 3 with
      | false => exact law7_longA a c l _ _ _ _ _ _ (fun X => EpM X pa pl ra rl) w hp hm hM IA IB IC ID SS SP hla hlk h hr hsa
      | true =>
        cases hsb : shortE pl rl with
        | false => exact law7_longB a c l _ _ _ _ _ _ (fun X => EpM X pa pl ra rl) w hp hm hM IA IB IC ID SS SP hla hlk h hr hsa hsb
        | true =>
          have ok : RingOk l := of_decide_eq_true hr
          have hT2 := shortE_ok hsb hq
          have hT : ad.size ≤ 200 ∧ va.size ≤ 200 ∧ tg.size ≤ 200 := by
            have q := (of_decide_eq_true hsa).1
            exact ⟨q 0 (by simp), q 1 (by simp), q 2 (by simp)⟩
          have F1 := fun (X : World) (h : RwA X a l) (hl : Hs.LaidC X) => checkStamp_any a c l ad va tg st sz lo hi ga se B S X h ok hB hb hS hst hsz hlo hhi hga hse hT hl
          have F2 := fun (X : World) (h : RwA X a l) (hl : Hs.LaidK X) => rcheckStamp_any a c l ad va tg st sz lo hi ga se B S X h ok hB hb hS hst hsz hlo hhi hga hse hT hl
          have F3 := fun (X : World) (h : RwA X a l) (hm : EpM X pa pl ra rl) (hl : Hs.LaidC X) => checkEpoch_any a c l nu lo2 hi2 se2 B2 S2 pa pc pl ra rc rl X h ok hB2 hb2 hS2 hnu hlo2 hhi2 hse2 hT2 hm hl
          have F4 := fun (X : World) (h : RwA X a l) (hm : EpM X pa pl ra rl) (hl : Hs.LaidK X) => rcheckEpoch_any a c l nu lo2 hi2 se2 B2 S2 pa pc pl ra rc rl X h ok hB2 hb2 hS2 hnu hlo2 hhi2 hse2 hT2 hm hl
          obtain ⟨E3, F5, F6⟩ : ∃ E3 : Int, (∀ X : World, RwA X a l → Hs.LaidC X → Calls Tryd.prog 51 #[.slice a l.length c, .agg (leaseC s3 e3 u3 r3 S3)] X fun e w' => e = .returned (.int .i64 E3) ∧ Below X.heap.size X w') ∧ (∀ X : World, RwA X a l → Hs.LaidK X → Calls Tryd.prog 52 #[.slice a l.length c, .agg (leaseC s3 e3 u3 r3 S3)] X fun e w' => e = .returned (.int .i64 E3) ∧ Below X.heap.size X w') := by
            by_cases hsite : 0 ≤ s3 ∧ s3 < 64
            · by_cases hu : u3 < 1
              · refine ⟨_, fun X h hl => ?_, fun X h hl => rcheckLease_lo a c l s3 e3 u3 r3 S3 X h ok hS3 hsite hs3 he3 hu3 hr3 hl hu⟩
                rw [← chk_out ok r3 43 [leaseP s3 e3 u3 r3] S3 (IntKind.i64.wrap (u3 - 1)) (by rw [IntKind.wrap_i64]; unfold i64Ok at hu3; omega)]
                exact checkLeaseU_any a c l s3 e3 u3 r3 S3 X h ok hS3 hsite hs3 he3 hu3 _ rfl hr3 hl
              · by_cases hv : 1099511627776 < u3
                · refine ⟨_, fun X h hl => ?_, fun X h hl => rcheckLease_hi a c l s3 e3 u3 r3 S3 X h ok hS3 hsite hs3 he3 hu3 hr3 hl hu hv⟩
                  rw [← chk_out ok r3 43 [leaseP s3 e3 u3 r3] S3 (IntKind.i64.wrap (u3 - 1)) (by rw [IntKind.wrap_i64]; unfold i64Ok at hu3; omega)]
                  exact checkLeaseU_any a c l s3 e3 u3 r3 S3 X h ok hS3 hsite hs3 he3 hu3 _ rfl hr3 hl
                · exact ⟨_, fun X h hl => checkLeaseU_any a c l s3 e3 u3 r3 S3 X h ok hS3 hsite hs3 he3 hu3 (u3 - 1) (by rw [IntKind.wrap_i64]; omega) hr3 hl, fun X h hl => rcheckLease_in a c l s3 e3 u3 r3 S3 X h ok hS3 hsite hs3 he3 hu3 hr3 hl hu hv⟩
            · exact ⟨1, fun X h hl => checkLease_bad a c l s3 e3 u3 r3 S3 X hsite, fun X h hl => rcheckLease_bad a c l s3 e3 u3 r3 S3 X hsite⟩
          obtain ⟨E4, F7, F8⟩ : ∃ E4 : Int, (∀ X : World, RwA X a l → Hs.LaidC X → Calls Tryd.prog 53 #[.slice a l.length c, .agg (recC [.int .i64 si, .int .i64 sz4] B4 [.int .i64 lo4, .int .i64 hi4, .int .i64 se4] S4)] X fun e w' => e = .returned (.int .i64 E4) ∧ Below X.heap.size X w') ∧ (∀ X : World, RwA X a l → Hs.LaidK X → Calls Tryd.prog 54 #[.slice a l.length c, .agg (recC [.int .i64 si, .int .i64 sz4] B4 [.int .i64 lo4, .int .i64 hi4, .int .i64 se4] S4)] X fun e w' => e = .returned (.int .i64 E4) ∧ Below X.heap.size X w') := by
            by_cases hsite : 0 ≤ si ∧ si < 64
            · exact ⟨_, fun X h hl => checkHead_any a c l si sz4 lo4 hi4 se4 B4 S4 X h ok hB4 hb4 hS4 hsi hsz4 hlo4 hhi4 hse4 hsite hl, fun X h hl => rcheckHead_any a c l si sz4 lo4 hi4 se4 B4 S4 X h ok hB4 hb4 hS4 hsi hsz4 hlo4 hhi4 hse4 hsite hl⟩
            · exact ⟨1, fun X h hl => checkHead_bad a c l si sz4 lo4 hi4 se4 B4 S4 X hB4 hsite, fun X h hl => rcheckHead_bad a c l si sz4 lo4 hi4 se4 B4 S4 X hB4 hsite⟩
          exact law7_ok a c l _ _ _ _ _ _ (fun X => EpM X pa pl ra rl) w hp hm hM IA IB IC ID _ _ E3 E4 F1 F2 F3 F4 F5 F6 F7 F8 SS SP hla hlk h hr hsa hsb
end Go.Proofs.YtcdcnklfcmoiiaaDoor
