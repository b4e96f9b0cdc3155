/- Contracts: law 8 of chapter 4, whole. -/
import Derived.Test.YtcdcnklfcmoiiaaDoorQS8A
import Derived.Test.YtcdcnklfcmoiiaaDoorQS8B
import Derived.Test.YtcdcnklfcmoiiaaDoorQS8C
namespace Go.Proofs.YtcdcnklfcmoiiaaDoor
set_option linter.unusedVariables false
set_option linter.unusedSimpArgs false
open Go.RowKit Go.Sort
theorem law8 (a : Option Addr) (c : Nat) (l : List Rw) (q : Nat) (oth : ByteArray) (ad va tg : ByteArray) (st sz lo hi ga se : Int) (B S : List Nat) (nu lo2 hi2 se2 : Int) (B2 S2 : List Nat) (pa : Option Addr) (pc : Nat) (pl : List Pu) (ra : Option Addr) (rc : Nat) (rl : List Dg) (s3 e3 u3 r3 : Int) (S3 : List Nat) (si sz4 lo4 hi4 se4 : Int) (B4 S4 : List Nat) (w : World) (hp : RwA w a l) (hm : l.length ≤ 9223372036854775807) (hq8 : q < 256) (hB : B.length = 16) (hb : ∀ x ∈ B, x < 256) (hS : S.length = 16) (hst : i64Ok st) (hsz : i64Ok sz) (hlo : i64Ok lo) (hhi : i64Ok hi) (hga : i64Ok ga) (hse : i64Ok se) (hB2 : B2.length = 16) (hb2 : ∀ x ∈ B2, x < 256) (hS2 : S2.length = 16) (hnu : i64Ok nu) (hlo2 : i64Ok lo2) (hhi2 : i64Ok hi2) (hse2 : i64Ok se2) (hmm : EpM w pa pl ra rl) (lP : pl.length ≤ 9223372036854775807) (lR : rl.length ≤ 9223372036854775807) (hq : ∀ x ∈ pl, i64Ok x.1) (hS3 : S3.length = 16) (hs3 : i64Ok s3) (he3 : i64Ok e3) (hu3 : i64Ok u3) (hr3 : i64Ok r3) (hB4 : B4.length = 16) (hb4 : ∀ x ∈ B4, x < 256) (hS4 : S4.length = 16) (hsi : i64Ok si) (hsz4 : i64Ok sz4) (hlo4 : i64Ok lo4) (hhi4 : i64Ok hi4) (hse4 : i64Ok se4) (hla : Hs.LaidC w) : Calls Tryd.prog 8 #[.slice a l.length c, .int .u8 (q : Nat), .string oth, .agg (recC [.string ad, .string va, .int .i64 st, .int .i64 sz] B [.string tg, .int .i64 lo, .int .i64 hi, .int .i64 ga, .int .i64 se] S), .agg (recC [.int .i64 nu] B2 [.int .i64 lo2, .int .i64 hi2, .slice pa pl.length pc, .slice ra rl.length rc, .int .i64 se2] S2), .agg (leaseC s3 e3 u3 r3 S3), .agg (recC [.int .i64 si, .int .i64 sz4] B4 [.int .i64 lo4, .int .i64 hi4, .int .i64 se4] S4)] w fun e w' => e = .returned (.bool true) ∧ Below w.heap.size w w' := by
  by_cases h0 : l.length = 0
  · exact law8_none a c l q oth ad va tg st sz lo hi ga se B S nu lo2 hi2 se2 B2 S2 pa pc pl ra rc rl s3 e3 u3 r3 S3 si sz4 lo4 hi4 se4 B4 S4 w hp hm hq8 hB hb hS hst hsz hlo hhi hga hse hB2 hb2 hS2 hnu hlo2 hhi2 hse2 hmm lP lR hq hS3 hs3 he3 hu3 hr3 hB4 hb4 hS4 hsi hsz4 hlo4 hhi4 hse4 hla h0
  · have h : 0 < l.length := by omega
    by_cases h30 : 30 < l.length
    · exact law8_many a c l q oth ad va tg st sz lo hi ga se B S nu lo2 hi2 se2 B2 S2 pa pc pl ra rc rl s3 e3 u3 r3 S3 si sz4 lo4 hi4 se4 B4 S4 w hp hm hq8 hB hb hS hst hsz hlo hhi hga hse hB2 hb2 hS2 hnu hlo2 hhi2 hse2 hmm lP lR hq hS3 hs3 he3 hu3 hr3 hB4 hb4 hS4 hsi hsz4 hlo4 hhi4 hse4 hla h30
    · cases hr : ringB l with
      | false => exact law8_noring a c l q oth ad va tg st sz lo hi ga se B S nu lo2 hi2 se2 B2 S2 pa pc pl ra rc rl s3 e3 u3 r3 S3 si sz4 lo4 hi4 se4 B4 S4 w hp hm hq8 hB hb hS hst hsz hlo hhi hga hse hB2 hb2 hS2 hnu hlo2 hhi2 hse2 hmm lP lR hq hS3 hs3 he3 hu3 hr3 hB4 hb4 hS4 hsi hsz4 hlo4 hhi4 hse4 hla h h30 hr
      | true =>
        cases hsa : shortB [ad, va, tg] 3 with
        | false => exact law8_longA a c l q oth ad va tg st sz lo hi ga se B S nu lo2 hi2 se2 B2 S2 pa pc pl ra rc rl s3 e3 u3 r3 S3 si sz4 lo4 hi4 se4 B4 S4 w hp hm hq8 hB hb hS hst hsz hlo hhi hga hse hB2 hb2 hS2 hnu hlo2 hhi2 hse2 hmm lP lR hq hS3 hs3 he3 hu3 hr3 hB4 hb4 hS4 hsi hsz4 hlo4 hhi4 hse4 hla h h30 hr hsa
        | true =>
          cases hsb : shortE pl rl with
          | false => exact law8_longB a c l q oth ad va tg st sz lo hi ga se B S nu lo2 hi2 se2 B2 S2 pa pc pl ra rc rl s3 e3 u3 r3 S3 si sz4 lo4 hi4 se4 B4 S4 w hp hm hq8 hB hb hS hst hsz hlo hhi hga hse hB2 hb2 hS2 hnu hlo2 hhi2 hse2 hmm lP lR hq hS3 hs3 he3 hu3 hr3 hB4 hb4 hS4 hsi hsz4 hlo4 hhi4 hse4 hla h h30 hr hsa hsb
          | true =>
            by_cases h1 : (l.getD (q % l.length) r0).1 = 1
            · exact law8_one a c l q oth ad va tg st sz lo hi ga se B S nu lo2 hi2 se2 B2 S2 pa pc pl ra rc rl s3 e3 u3 r3 S3 si sz4 lo4 hi4 se4 B4 S4 w hp hm hq8 hB hb hS hst hsz hlo hhi hga hse hB2 hb2 hS2 hnu hlo2 hhi2 hse2 hmm lP lR hq hS3 hs3 he3 hu3 hr3 hB4 hb4 hS4 hsi hsz4 hlo4 hhi4 hse4 hla h h30 hr hsa hsb h1
            · exact law8_two a c l q oth ad va tg st sz lo hi ga se B S nu lo2 hi2 se2 B2 S2 pa pc pl ra rc rl s3 e3 u3 r3 S3 si sz4 lo4 hi4 se4 B4 S4 w hp hm hq8 hB hb hS hst hsz hlo hhi hga hse hB2 hb2 hS2 hnu hlo2 hhi2 hse2 hmm lP lR hq hS3 hs3 he3 hu3 hr3 hB4 hb4 hS4 hsi hsz4 hlo4 hhi4 hse4 hla h h30 hr hsa hsb h1
end Go.Proofs.YtcdcnklfcmoiiaaDoor
