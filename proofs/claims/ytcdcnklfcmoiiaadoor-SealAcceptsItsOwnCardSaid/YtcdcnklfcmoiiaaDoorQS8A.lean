/- Contracts: law 8 of chapter 4, the short ways. -/
import Derived.Test.YtcdcnklfcmoiiaaDoorQM8
import Derived.Test.YtcdcnklfcmoiiaaDoorQSS
import Derived.Test.YtcdcnklfcmoiiaaDoorQSE
import Derived.Test.YtcdcnklfcmoiiaaDoorQC1
import Derived.Test.YtcdcnklfcmoiiaaDoorQSR
import Derived.Test.YtcdcnklfcmoiiaaDoorQEQ
namespace Go.Proofs.YtcdcnklfcmoiiaaDoor
set_option linter.unusedVariables false
set_option linter.unusedSimpArgs false
open Go.RowKit Go.Sort
set_option maxRecDepth 100000 in
set_option maxHeartbeats 4000000 in
theorem law8_none (a : Option Addr) (c : Nat) (l : List Rw) (q : Nat) (oth : ByteArray) (ad va tg : ByteArray) (st sz lo hi ga se : Int) (B S : List Nat) (nu lo2 hi2 se2 : Int) (B2 S2 : List Nat) (pa : Option Addr) (pc : Nat) (pl : List Pu) (ra : Option Addr) (rc : Nat) (rl : List Dg) (s3 e3 u3 r3 : Int) (S3 : List Nat) (si sz4 lo4 hi4 se4 : Int) (B4 S4 : List Nat) (w : World) (hp : RwA w a l) (hm : l.length ≤ 9223372036854775807) (hq8 : q < 256) (hB : B.length = 16) (hb : ∀ x ∈ B, x < 256) (hS : S.length = 16) (hst : i64Ok st) (hsz : i64Ok sz) (hlo : i64Ok lo) (hhi : i64Ok hi) (hga : i64Ok ga) (hse : i64Ok se) (hB2 : B2.length = 16) (hb2 : ∀ x ∈ B2, x < 256) (hS2 : S2.length = 16) (hnu : i64Ok nu) (hlo2 : i64Ok lo2) (hhi2 : i64Ok hi2) (hse2 : i64Ok se2) (hmm : EpM w pa pl ra rl) (lP : pl.length ≤ 9223372036854775807) (lR : rl.length ≤ 9223372036854775807) (hq : ∀ x ∈ pl, i64Ok x.1) (hS3 : S3.length = 16) (hs3 : i64Ok s3) (he3 : i64Ok e3) (hu3 : i64Ok u3) (hr3 : i64Ok r3) (hB4 : B4.length = 16) (hb4 : ∀ x ∈ B4, x < 256) (hS4 : S4.length = 16) (hsi : i64Ok si) (hsz4 : i64Ok sz4) (hlo4 : i64Ok lo4) (hhi4 : i64Ok hi4) (hse4 : i64Ok se4) (hla : Hs.LaidC w) (h : l.length = 0) : Calls Tryd.prog 8 #[.slice a l.length c, .int .u8 (q : Nat), .string oth, .agg (recC [.string ad, .string va, .int .i64 st, .int .i64 sz] B [.string tg, .int .i64 lo, .int .i64 hi, .int .i64 ga, .int .i64 se] S), .agg (recC [.int .i64 nu] B2 [.int .i64 lo2, .int .i64 hi2, .slice pa pl.length pc, .slice ra rl.length rc, .int .i64 se2] S2), .agg (leaseC s3 e3 u3 r3 S3), .agg (recC [.int .i64 si, .int .i64 sz4] B4 [.int .i64 lo4, .int .i64 hi4, .int .i64 se4] S4)] w fun e w' => e = .returned (.bool true) ∧ Below w.heap.size w w' := by
  have HLA := Lib.hid hla
  have HP := Lib.hid hp
  have HM := Lib.hid hmm
  have SNT := Lib.hid (fun (X : World) (h : Hs.LaidC X) => sanity_any X h)
  have HBA := Lib.hid hB
  have HBB := Lib.hid hB2
  have HBD := Lib.hid hB4
  have IA := Lib.hid (show (Tryd.prog.info? 58).map (·.size) = some (recC [.string ad, .string va, .int .i64 st, .int .i64 sz] B [.string tg, .int .i64 lo, .int .i64 hi, .int .i64 ga, .int .i64 se] S).size by rw [rec_size _ _ _ _ hB hS]; kernel_rfl)
  have IB := Lib.hid (show (Tryd.prog.info? 62).map (·.size) = some (recC [.int .i64 nu] B2 [.int .i64 lo2, .int .i64 hi2, .slice pa pl.length pc, .slice ra rl.length rc, .int .i64 se2] S2).size by rw [rec_size _ _ _ _ hB2 hS2]; kernel_rfl)
  have IC := Lib.hid (show (Tryd.prog.info? 64).map (·.size) = some (leaseC s3 e3 u3 r3 S3).size by rw [lease_size _ _ _ _ _ hS3]; kernel_rfl)
  have ID := Lib.hid (show (Tryd.prog.info? 66).map (·.size) = some (recC [.int .i64 si, .int .i64 sz4] B4 [.int .i64 lo4, .int .i64 hi4, .int .i64 se4] S4).size by rw [rec_size _ _ _ _ hB4 hS4]; kernel_rfl)
  have SS := Lib.hid (fun X : World => shortStamp_any ad va tg st sz lo hi ga se B S X hB)
  have SP := Lib.hid (fun (X : World) (h : EpM X pa pl ra rl) => shortEpoch_any nu lo2 hi2 se2 B2 S2 pa pc pl ra rc rl X hB2 h lP lR)
  have RG := Lib.hid (show ∀ X : World, RwA X a l → Calls Tryd.prog 11 #[.slice a l.length c] X fun e w' => e = .returned (.bool (ringB l)) ∧ Below X.heap.size X w' from fun X h => ring_any a c l X h hm)
  obtain ⟨N, hN⟩ : ∃ N, l.length = N := ⟨_, rfl⟩
  have HN := Lib.hid hN
  simp only [hN] at RG
  rw [hN]
  rw [hN] at h
  have e9 : N = 0 := by omega
  subst e9
  clear h
  clear hla hp hm hmm hN hq8 hB hb hS hst hsz hlo hhi hga hse hB2 hb2 hS2 hnu hlo2 hhi2 hse2 hq hS3 hs3 he3 hu3 hr3 hB4 hb4 hS4 hsi hsz4 hlo4 hhi4 hse4 lP lR
  obtain ⟨G, hG⟩ : ∃ G, w.heap.size = G := ⟨_, rfl⟩
  have HG := Lib.hid hG
  obtain ⟨XA, hXA⟩ : ∃ C, (recC [.string ad, .string va, .int .i64 st, .int .i64 sz] B [.string tg, .int .i64 lo, .int .i64 hi, .int .i64 ga, .int .i64 se] S) = C := ⟨_, rfl⟩
  obtain ⟨XB, hXB⟩ : ∃ C, (recC [.int .i64 nu] B2 [.int .i64 lo2, .int .i64 hi2, .slice pa pl.length pc, .slice ra rl.length rc, .int .i64 se2] S2) = C := ⟨_, rfl⟩
  obtain ⟨XC, hXC⟩ : ∃ C, (leaseC s3 e3 u3 r3 S3) = C := ⟨_, rfl⟩
  obtain ⟨XD, hXD⟩ : ∃ C, (recC [.int .i64 si, .int .i64 sz4] B4 [.int .i64 lo4, .int .i64 hi4, .int .i64 se4] S4) = C := ⟨_, rfl⟩
  have KA := Lib.hid (show Blk ((((w.alloc (.cells XA 58)).alloc (.cells XB 62)).alloc (.cells XC 64)).alloc (.cells XD 66)) (G) 58 (recC [.string ad, .string va, .int .i64 st, .int .i64 sz] B [.string tg, .int .i64 lo, .int .i64 hi, .int .i64 ga, .int .i64 se] S) from by rw [hXA]; exact (((Blk.new' _ _ _ _ hG rfl).alloc _).alloc _).alloc _)
  have KB := Lib.hid (show Blk ((((w.alloc (.cells XA 58)).alloc (.cells XB 62)).alloc (.cells XC 64)).alloc (.cells XD 66)) (G + 1) 62 (recC [.int .i64 nu] B2 [.int .i64 lo2, .int .i64 hi2, .slice pa pl.length pc, .slice ra rl.length rc, .int .i64 se2] S2) from by rw [hXB]; exact ((Blk.new' _ _ _ _ (by rw [World.size_alloc, hG]) rfl).alloc _).alloc _)
  have KC := Lib.hid (show Blk ((((w.alloc (.cells XA 58)).alloc (.cells XB 62)).alloc (.cells XC 64)).alloc (.cells XD 66)) (G + 1 + 1) 64 (leaseC s3 e3 u3 r3 S3) from by rw [hXC]; exact (Blk.new' _ _ _ _ (by rw [World.size_alloc, World.size_alloc, hG]) rfl).alloc _)
  have KD := Lib.hid (show Blk ((((w.alloc (.cells XA 58)).alloc (.cells XB 62)).alloc (.cells XC 64)).alloc (.cells XD 66)) (G + 1 + 1 + 1) 66 (recC [.int .i64 si, .int .i64 sz4] B4 [.int .i64 lo4, .int .i64 hi4, .int .i64 se4] S4) from by rw [hXD]; exact Blk.new' _ _ _ _ (by rw [World.size_alloc, World.size_alloc, World.size_alloc, hG]) rfl)
  have B0 := Lib.hid (show Below w.heap.size w ((((w.alloc (.cells XA 58)).alloc (.cells XB 62)).alloc (.cells XC 64)).alloc (.cells XD 66)) by (repeat' (first | (with_reducible exact Below.refl _ _) | (with_reducible assumption) | (with_reducible refine Below.alloc ?_ ?_ _) | (with_reducible refine Below.drew ?_) | (with_reducible refine below_dn ?_) | (with_reducible refine Below.setCell ?_ ?_ _) | (with_reducible exact Nat.le_refl _) | omega | (simp only [World.size_alloc, World.size_setCell, World.size_drew]; omega) | (simp; omega) | (simp; done))))
  rw [hXA, hXB, hXC, hXD]
  clear hXA hXB hXC hXD
  go_enter Tryd.func8, Tryd.ntmps8
  go_upto_region 1 with (fail)
  try rw [hG]
  generalize hw0 : ((((w.alloc (.cells XA 58)).alloc (.cells XB 62)).alloc (.cells XC 64)).alloc (.cells XD 66)) = w0 at KA KB KC KD B0 ⊢
  clear hw0 hG
  go_wp2_with fail
  refine (SNT.out _ (HLA.out.below B0.out)).mono ?_
  rintro e w1 ⟨rfl, hb⟩
  replace KA := Lib.hid (KA.out.below hb KA.out.lt)
  replace KB := Lib.hid (KB.out.below hb KB.out.lt)
  replace KC := Lib.hid (KC.out.below hb KC.out.lt)
  replace KD := Lib.hid (KD.out.below hb KD.out.lt)
  replace B0 := Lib.hid (B0.out.trans (hb.mono B0.out.size))
  clear hb
  go_wp2
  go_ret
  exact ⟨rfl, B0.out⟩
set_option maxRecDepth 100000 in
set_option maxHeartbeats 4000000 in
theorem law8_many (a : Option Addr) (c : Nat) (l : List Rw) (q : Nat) (oth : ByteArray) (ad va tg : ByteArray) (st sz lo hi ga se : Int) (B S : List Nat) (nu lo2 hi2 se2 : Int) (B2 S2 : List Nat) (pa : Option Addr) (pc : Nat) (pl : List Pu) (ra : Option Addr) (rc : Nat) (rl : List Dg) (s3 e3 u3 r3 : Int) (S3 : List Nat) (si sz4 lo4 hi4 se4 : Int) (B4 S4 : List Nat) (w : World) (hp : RwA w a l) (hm : l.length ≤ 9223372036854775807) (hq8 : q < 256) (hB : B.length = 16) (hb : ∀ x ∈ B, x < 256) (hS : S.length = 16) (hst : i64Ok st) (hsz : i64Ok sz) (hlo : i64Ok lo) (hhi : i64Ok hi) (hga : i64Ok ga) (hse : i64Ok se) (hB2 : B2.length = 16) (hb2 : ∀ x ∈ B2, x < 256) (hS2 : S2.length = 16) (hnu : i64Ok nu) (hlo2 : i64Ok lo2) (hhi2 : i64Ok hi2) (hse2 : i64Ok se2) (hmm : EpM w pa pl ra rl) (lP : pl.length ≤ 9223372036854775807) (lR : rl.length ≤ 9223372036854775807) (hq : ∀ x ∈ pl, i64Ok x.1) (hS3 : S3.length = 16) (hs3 : i64Ok s3) (he3 : i64Ok e3) (hu3 : i64Ok u3) (hr3 : i64Ok r3) (hB4 : B4.length = 16) (hb4 : ∀ x ∈ B4, x < 256) (hS4 : S4.length = 16) (hsi : i64Ok si) (hsz4 : i64Ok sz4) (hlo4 : i64Ok lo4) (hhi4 : i64Ok hi4) (hse4 : i64Ok se4) (hla : Hs.LaidC w) (h : 30 < l.length) : Calls Tryd.prog 8 #[.slice a l.length c, .int .u8 (q : Nat), .string oth, .agg (recC [.string ad, .string va, .int .i64 st, .int .i64 sz] B [.string tg, .int .i64 lo, .int .i64 hi, .int .i64 ga, .int .i64 se] S), .agg (recC [.int .i64 nu] B2 [.int .i64 lo2, .int .i64 hi2, .slice pa pl.length pc, .slice ra rl.length rc, .int .i64 se2] S2), .agg (leaseC s3 e3 u3 r3 S3), .agg (recC [.int .i64 si, .int .i64 sz4] B4 [.int .i64 lo4, .int .i64 hi4, .int .i64 se4] S4)] w fun e w' => e = .returned (.bool true) ∧ Below w.heap.size w w' := by
  have HLA := Lib.hid hla
  have HP := Lib.hid hp
  have HM := Lib.hid hmm
  have SNT := Lib.hid (fun (X : World) (h : Hs.LaidC X) => sanity_any X h)
  have HBA := Lib.hid hB
  have HBB := Lib.hid hB2
  have HBD := Lib.hid hB4
  have IA := Lib.hid (show (Tryd.prog.info? 58).map (·.size) = some (recC [.string ad, .string va, .int .i64 st, .int .i64 sz] B [.string tg, .int .i64 lo, .int .i64 hi, .int .i64 ga, .int .i64 se] S).size by rw [rec_size _ _ _ _ hB hS]; kernel_rfl)
  have IB := Lib.hid (show (Tryd.prog.info? 62).map (·.size) = some (recC [.int .i64 nu] B2 [.int .i64 lo2, .int .i64 hi2, .slice pa pl.length pc, .slice ra rl.length rc, .int .i64 se2] S2).size by rw [rec_size _ _ _ _ hB2 hS2]; kernel_rfl)
  have IC := Lib.hid (show (Tryd.prog.info? 64).map (·.size) = some (leaseC s3 e3 u3 r3 S3).size by rw [lease_size _ _ _ _ _ hS3]; kernel_rfl)
  have ID := Lib.hid (show (Tryd.prog.info? 66).map (·.size) = some (recC [.int .i64 si, .int .i64 sz4] B4 [.int .i64 lo4, .int .i64 hi4, .int .i64 se4] S4).size by rw [rec_size _ _ _ _ hB4 hS4]; kernel_rfl)
  have SS := Lib.hid (fun X : World => shortStamp_any ad va tg st sz lo hi ga se B S X hB)
  have SP := Lib.hid (fun (X : World) (h : EpM X pa pl ra rl) => shortEpoch_any nu lo2 hi2 se2 B2 S2 pa pc pl ra rc rl X hB2 h lP lR)
  have RG := Lib.hid (show ∀ X : World, RwA X a l → Calls Tryd.prog 11 #[.slice a l.length c] X fun e w' => e = .returned (.bool (ringB l)) ∧ Below X.heap.size X w' from fun X h => ring_any a c l X h hm)
  obtain ⟨N, hN⟩ : ∃ N, l.length = N := ⟨_, rfl⟩
  have HN := Lib.hid hN
  simp only [hN] at RG
  rw [hN]
  rw [hN] at h
  have t0a : ((N : Int) == 0) = false := by simp; omega
  have t0b : ¬ (N : Int) = 0 := by omega
  have t0c : ¬ N = 0 := by omega
  have t0d : decide ((N : Int) = 0) = false := decide_eq_false t0b
  have t0e : decide (N = 0) = false := decide_eq_false t0c
  have t0f : (N == 0) = false := by simp; omega
  have t1 : decide ((30 : Int) < (N : Int)) = true := decide_eq_true (by omega)
  clear h
  clear hla hp hm hmm hN hq8 hB hb hS hst hsz hlo hhi hga hse hB2 hb2 hS2 hnu hlo2 hhi2 hse2 hq hS3 hs3 he3 hu3 hr3 hB4 hb4 hS4 hsi hsz4 hlo4 hhi4 hse4 lP lR
  obtain ⟨G, hG⟩ : ∃ G, w.heap.size = G := ⟨_, rfl⟩
  have HG := Lib.hid hG
  obtain ⟨XA, hXA⟩ : ∃ C, (recC [.string ad, .string va, .int .i64 st, .int .i64 sz] B [.string tg, .int .i64 lo, .int .i64 hi, .int .i64 ga, .int .i64 se] S) = C := ⟨_, rfl⟩
  obtain ⟨XB, hXB⟩ : ∃ C, (recC [.int .i64 nu] B2 [.int .i64 lo2, .int .i64 hi2, .slice pa pl.length pc, .slice ra rl.length rc, .int .i64 se2] S2) = C := ⟨_, rfl⟩
  obtain ⟨XC, hXC⟩ : ∃ C, (leaseC s3 e3 u3 r3 S3) = C := ⟨_, rfl⟩
  obtain ⟨XD, hXD⟩ : ∃ C, (recC [.int .i64 si, .int .i64 sz4] B4 [.int .i64 lo4, .int .i64 hi4, .int .i64 se4] S4) = C := ⟨_, rfl⟩
  have KA := Lib.hid (show Blk ((((w.alloc (.cells XA 58)).alloc (.cells XB 62)).alloc (.cells XC 64)).alloc (.cells XD 66)) (G) 58 (recC [.string ad, .string va, .int .i64 st, .int .i64 sz] B [.string tg, .int .i64 lo, .int .i64 hi, .int .i64 ga, .int .i64 se] S) from by rw [hXA]; exact (((Blk.new' _ _ _ _ hG rfl).alloc _).alloc _).alloc _)
  have KB := Lib.hid (show Blk ((((w.alloc (.cells XA 58)).alloc (.cells XB 62)).alloc (.cells XC 64)).alloc (.cells XD 66)) (G + 1) 62 (recC [.int .i64 nu] B2 [.int .i64 lo2, .int .i64 hi2, .slice pa pl.length pc, .slice ra rl.length rc, .int .i64 se2] S2) from by rw [hXB]; exact ((Blk.new' _ _ _ _ (by rw [World.size_alloc, hG]) rfl).alloc _).alloc _)
  have KC := Lib.hid (show Blk ((((w.alloc (.cells XA 58)).alloc (.cells XB 62)).alloc (.cells XC 64)).alloc (.cells XD 66)) (G + 1 + 1) 64 (leaseC s3 e3 u3 r3 S3) from by rw [hXC]; exact (Blk.new' _ _ _ _ (by rw [World.size_alloc, World.size_alloc, hG]) rfl).alloc _)
  have KD := Lib.hid (show Blk ((((w.alloc (.cells XA 58)).alloc (.cells XB 62)).alloc (.cells XC 64)).alloc (.cells XD 66)) (G + 1 + 1 + 1) 66 (recC [.int .i64 si, .int .i64 sz4] B4 [.int .i64 lo4, .int .i64 hi4, .int .i64 se4] S4) from by rw [hXD]; exact Blk.new' _ _ _ _ (by rw [World.size_alloc, World.size_alloc, World.size_alloc, hG]) rfl)
  have B0 := Lib.hid (show Below w.heap.size w ((((w.alloc (.cells XA 58)).alloc (.cells XB 62)).alloc (.cells XC 64)).alloc (.cells XD 66)) by (repeat' (first | (with_reducible exact Below.refl _ _) | (with_reducible assumption) | (with_reducible refine Below.alloc ?_ ?_ _) | (with_reducible refine Below.drew ?_) | (with_reducible refine below_dn ?_) | (with_reducible refine Below.setCell ?_ ?_ _) | (with_reducible exact Nat.le_refl _) | omega | (simp only [World.size_alloc, World.size_setCell, World.size_drew]; omega) | (simp; omega) | (simp; done))))
  rw [hXA, hXB, hXC, hXD]
  clear hXA hXB hXC hXD
  go_enter Tryd.func8, Tryd.ntmps8
  go_upto_region 1 with (fail)
  try rw [hG]
  generalize hw0 : ((((w.alloc (.cells XA 58)).alloc (.cells XB 62)).alloc (.cells XC 64)).alloc (.cells XD 66)) = w0 at KA KB KC KD B0 ⊢
  clear hw0 hG
  go_wp2_with fail
  refine (SNT.out _ (HLA.out.below B0.out)).mono ?_
  rintro e w1 ⟨rfl, hb⟩
  replace KA := Lib.hid (KA.out.below hb KA.out.lt)
  replace KB := Lib.hid (KB.out.below hb KB.out.lt)
  replace KC := Lib.hid (KC.out.below hb KC.out.lt)
  replace KD := Lib.hid (KD.out.below hb KD.out.lt)
  replace B0 := Lib.hid (B0.out.trans (hb.mono B0.out.size))
  clear hb
  go_wp2
  go_ret
  exact ⟨rfl, B0.out⟩
set_option maxRecDepth 100000 in
set_option maxHeartbeats 4000000 in
theorem law8_noring (a : Option Addr) (c : Nat) (l : List Rw) (q : Nat) (oth : ByteArray) (ad va tg : ByteArray) (st sz lo hi ga se : Int) (B S : List Nat) (nu lo2 hi2 se2 : Int) (B2 S2 : List Nat) (pa : Option Addr) (pc : Nat) (pl : List Pu) (ra : Option Addr) (rc : Nat) (rl : List Dg) (s3 e3 u3 r3 : Int) (S3 : List Nat) (si sz4 lo4 hi4 se4 : Int) (B4 S4 : List Nat) (w : World) (hp : RwA w a l) (hm : l.length ≤ 9223372036854775807) (hq8 : q < 256) (hB : B.length = 16) (hb : ∀ x ∈ B, x < 256) (hS : S.length = 16) (hst : i64Ok st) (hsz : i64Ok sz) (hlo : i64Ok lo) (hhi : i64Ok hi) (hga : i64Ok ga) (hse : i64Ok se) (hB2 : B2.length = 16) (hb2 : ∀ x ∈ B2, x < 256) (hS2 : S2.length = 16) (hnu : i64Ok nu) (hlo2 : i64Ok lo2) (hhi2 : i64Ok hi2) (hse2 : i64Ok se2) (hmm : EpM w pa pl ra rl) (lP : pl.length ≤ 9223372036854775807) (lR : rl.length ≤ 9223372036854775807) (hq : ∀ x ∈ pl, i64Ok x.1) (hS3 : S3.length = 16) (hs3 : i64Ok s3) (he3 : i64Ok e3) (hu3 : i64Ok u3) (hr3 : i64Ok r3) (hB4 : B4.length = 16) (hb4 : ∀ x ∈ B4, x < 256) (hS4 : S4.length = 16) (hsi : i64Ok si) (hsz4 : i64Ok sz4) (hlo4 : i64Ok lo4) (hhi4 : i64Ok hi4) (hse4 : i64Ok se4) (hla : Hs.LaidC w) (h : 0 < l.length) (h30 : ¬ 30 < l.length) (hr : ringB l = false) : Calls Tryd.prog 8 #[.slice a l.length c, .int .u8 (q : Nat), .string oth, .agg (recC [.string ad, .string va, .int .i64 st, .int .i64 sz] B [.string tg, .int .i64 lo, .int .i64 hi, .int .i64 ga, .int .i64 se] S), .agg (recC [.int .i64 nu] B2 [.int .i64 lo2, .int .i64 hi2, .slice pa pl.length pc, .slice ra rl.length rc, .int .i64 se2] S2), .agg (leaseC s3 e3 u3 r3 S3), .agg (recC [.int .i64 si, .int .i64 sz4] B4 [.int .i64 lo4, .int .i64 hi4, .int .i64 se4] S4)] w fun e w' => e = .returned (.bool true) ∧ Below w.heap.size w w' := by
  have HLA := Lib.hid hla
  have HP := Lib.hid hp
  have HM := Lib.hid hmm
  have SNT := Lib.hid (fun (X : World) (h : Hs.LaidC X) => sanity_any X h)
  have HBA := Lib.hid hB
  have HBB := Lib.hid hB2
  have HBD := Lib.hid hB4
  have IA := Lib.hid (show (Tryd.prog.info? 58).map (·.size) = some (recC [.string ad, .string va, .int .i64 st, .int .i64 sz] B [.string tg, .int .i64 lo, .int .i64 hi, .int .i64 ga, .int .i64 se] S).size by rw [rec_size _ _ _ _ hB hS]; kernel_rfl)
  have IB := Lib.hid (show (Tryd.prog.info? 62).map (·.size) = some (recC [.int .i64 nu] B2 [.int .i64 lo2, .int .i64 hi2, .slice pa pl.length pc, .slice ra rl.length rc, .int .i64 se2] S2).size by rw [rec_size _ _ _ _ hB2 hS2]; kernel_rfl)
  have IC := Lib.hid (show (Tryd.prog.info? 64).map (·.size) = some (leaseC s3 e3 u3 r3 S3).size by rw [lease_size _ _ _ _ _ hS3]; kernel_rfl)
  have ID := Lib.hid (show (Tryd.prog.info? 66).map (·.size) = some (recC [.int .i64 si, .int .i64 sz4] B4 [.int .i64 lo4, .int .i64 hi4, .int .i64 se4] S4).size by rw [rec_size _ _ _ _ hB4 hS4]; kernel_rfl)
  have SS := Lib.hid (fun X : World => shortStamp_any ad va tg st sz lo hi ga se B S X hB)
  have SP := Lib.hid (fun (X : World) (h : EpM X pa pl ra rl) => shortEpoch_any nu lo2 hi2 se2 B2 S2 pa pc pl ra rc rl X hB2 h lP lR)
  have RG := Lib.hid (show ∀ X : World, RwA X a l → Calls Tryd.prog 11 #[.slice a l.length c] X fun e w' => e = .returned (.bool (ringB l)) ∧ Below X.heap.size X w' from fun X h => ring_any a c l X h hm)
  rw [hr] at RG
  obtain ⟨N, hN⟩ : ∃ N, l.length = N := ⟨_, rfl⟩
  have HN := Lib.hid hN
  simp only [hN] at RG
  rw [hN]
  rw [hN] at h h30
  have t0a : ((N : Int) == 0) = false := by simp; omega
  have t0b : ¬ (N : Int) = 0 := by omega
  have t0c : ¬ N = 0 := by omega
  have t0d : decide ((N : Int) = 0) = false := decide_eq_false t0b
  have t0e : decide (N = 0) = false := decide_eq_false t0c
  have t0f : (N == 0) = false := by simp; omega
  have t1 : decide ((30 : Int) < (N : Int)) = false := decide_eq_false (by omega)
  clear h h30
  clear hr
  clear hla hp hm hmm hN hq8 hB hb hS hst hsz hlo hhi hga hse hB2 hb2 hS2 hnu hlo2 hhi2 hse2 hq hS3 hs3 he3 hu3 hr3 hB4 hb4 hS4 hsi hsz4 hlo4 hhi4 hse4 lP lR
  obtain ⟨G, hG⟩ : ∃ G, w.heap.size = G := ⟨_, rfl⟩
  have HG := Lib.hid hG
  obtain ⟨XA, hXA⟩ : ∃ C, (recC [.string ad, .string va, .int .i64 st, .int .i64 sz] B [.string tg, .int .i64 lo, .int .i64 hi, .int .i64 ga, .int .i64 se] S) = C := ⟨_, rfl⟩
  obtain ⟨XB, hXB⟩ : ∃ C, (recC [.int .i64 nu] B2 [.int .i64 lo2, .int .i64 hi2, .slice pa pl.length pc, .slice ra rl.length rc, .int .i64 se2] S2) = C := ⟨_, rfl⟩
  obtain ⟨XC, hXC⟩ : ∃ C, (leaseC s3 e3 u3 r3 S3) = C := ⟨_, rfl⟩
  obtain ⟨XD, hXD⟩ : ∃ C, (recC [.int .i64 si, .int .i64 sz4] B4 [.int .i64 lo4, .int .i64 hi4, .int .i64 se4] S4) = C := ⟨_, rfl⟩
  have KA := Lib.hid (show Blk ((((w.alloc (.cells XA 58)).alloc (.cells XB 62)).alloc (.cells XC 64)).alloc (.cells XD 66)) (G) 58 (recC [.string ad, .string va, .int .i64 st, .int .i64 sz] B [.string tg, .int .i64 lo, .int .i64 hi, .int .i64 ga, .int .i64 se] S) from by rw [hXA]; exact (((Blk.new' _ _ _ _ hG rfl).alloc _).alloc _).alloc _)
  have KB := Lib.hid (show Blk ((((w.alloc (.cells XA 58)).alloc (.cells XB 62)).alloc (.cells XC 64)).alloc (.cells XD 66)) (G + 1) 62 (recC [.int .i64 nu] B2 [.int .i64 lo2, .int .i64 hi2, .slice pa pl.length pc, .slice ra rl.length rc, .int .i64 se2] S2) from by rw [hXB]; exact ((Blk.new' _ _ _ _ (by rw [World.size_alloc, hG]) rfl).alloc _).alloc _)
  have KC := Lib.hid (show Blk ((((w.alloc (.cells XA 58)).alloc (.cells XB 62)).alloc (.cells XC 64)).alloc (.cells XD 66)) (G + 1 + 1) 64 (leaseC s3 e3 u3 r3 S3) from by rw [hXC]; exact (Blk.new' _ _ _ _ (by rw [World.size_alloc, World.size_alloc, hG]) rfl).alloc _)
  have KD := Lib.hid (show Blk ((((w.alloc (.cells XA 58)).alloc (.cells XB 62)).alloc (.cells XC 64)).alloc (.cells XD 66)) (G + 1 + 1 + 1) 66 (recC [.int .i64 si, .int .i64 sz4] B4 [.int .i64 lo4, .int .i64 hi4, .int .i64 se4] S4) from by rw [hXD]; exact Blk.new' _ _ _ _ (by rw [World.size_alloc, World.size_alloc, World.size_alloc, hG]) rfl)
  have B0 := Lib.hid (show Below w.heap.size w ((((w.alloc (.cells XA 58)).alloc (.cells XB 62)).alloc (.cells XC 64)).alloc (.cells XD 66)) by (repeat' (first | (with_reducible exact Below.refl _ _) | (with_reducible assumption) | (with_reducible refine Below.alloc ?_ ?_ _) | (with_reducible refine Below.drew ?_) | (with_reducible refine below_dn ?_) | (with_reducible refine Below.setCell ?_ ?_ _) | (with_reducible exact Nat.le_refl _) | omega | (simp only [World.size_alloc, World.size_setCell, World.size_drew]; omega) | (simp; omega) | (simp; done))))
  rw [hXA, hXB, hXC, hXD]
  clear hXA hXB hXC hXD
  go_enter Tryd.func8, Tryd.ntmps8
  go_upto_region 1 with (fail)
  try rw [hG]
  generalize hw0 : ((((w.alloc (.cells XA 58)).alloc (.cells XB 62)).alloc (.cells XC 64)).alloc (.cells XD 66)) = w0 at KA KB KC KD B0 ⊢
  clear hw0 hG
  go_wp2_with fail
  refine (RG.out _ (HP.out.mono B0.out)).mono ?_
  rintro e w1 ⟨rfl, hb⟩
  replace KA := Lib.hid (KA.out.below hb KA.out.lt)
  replace KB := Lib.hid (KB.out.below hb KB.out.lt)
  replace KC := Lib.hid (KC.out.below hb KC.out.lt)
  replace KD := Lib.hid (KD.out.below hb KD.out.lt)
  replace B0 := Lib.hid (B0.out.trans (hb.mono B0.out.size))
  clear hb
  go_wp2_with fail
  refine (SNT.out _ (HLA.out.below B0.out)).mono ?_
  rintro e w2 ⟨rfl, hb⟩
  replace KA := Lib.hid (KA.out.below hb KA.out.lt)
  replace KB := Lib.hid (KB.out.below hb KB.out.lt)
  replace KC := Lib.hid (KC.out.below hb KC.out.lt)
  replace KD := Lib.hid (KD.out.below hb KD.out.lt)
  replace B0 := Lib.hid (B0.out.trans (hb.mono B0.out.size))
  clear hb
  go_wp2
  go_ret
  exact ⟨rfl, B0.out⟩
set_option maxRecDepth 100000 in
set_option maxHeartbeats 4000000 in
theorem law8_longA (a : Option Addr) (c : Nat) (l : List Rw) (q : Nat) (oth : ByteArray) (ad va tg : ByteArray) (st sz lo hi ga se : Int) (B S : List Nat) (nu lo2 hi2 se2 : Int) (B2 S2 : List Nat) (pa : Option Addr) (pc : Nat) (pl : List Pu) (ra : Option Addr) (rc : Nat) (rl : List Dg) (s3 e3 u3 r3 : Int) (S3 : List Nat) (si sz4 lo4 hi4 se4 : Int) (B4 S4 : List Nat) (w : World) (hp : RwA w a l) (hm : l.length ≤ 9223372036854775807) (hq8 : q < 256) (hB : B.length = 16) (hb : ∀ x ∈ B, x < 256) (hS : S.length = 16) (hst : i64Ok st) (hsz : i64Ok sz) (hlo : i64Ok lo) (hhi : i64Ok hi) (hga : i64Ok ga) (hse : i64Ok se) (hB2 : B2.length = 16) (hb2 : ∀ x ∈ B2, x < 256) (hS2 : S2.length = 16) (hnu : i64Ok nu) (hlo2 : i64Ok lo2) (hhi2 : i64Ok hi2) (hse2 : i64Ok se2) (hmm : EpM w pa pl ra rl) (lP : pl.length ≤ 9223372036854775807) (lR : rl.length ≤ 9223372036854775807) (hq : ∀ x ∈ pl, i64Ok x.1) (hS3 : S3.length = 16) (hs3 : i64Ok s3) (he3 : i64Ok e3) (hu3 : i64Ok u3) (hr3 : i64Ok r3) (hB4 : B4.length = 16) (hb4 : ∀ x ∈ B4, x < 256) (hS4 : S4.length = 16) (hsi : i64Ok si) (hsz4 : i64Ok sz4) (hlo4 : i64Ok lo4) (hhi4 : i64Ok hi4) (hse4 : i64Ok se4) (hla : Hs.LaidC w) (h : 0 < l.length) (h30 : ¬ 30 < l.length) (hr : ringB l = true) (hsa : shortB [ad, va, tg] 3 = false) : Calls Tryd.prog 8 #[.slice a l.length c, .int .u8 (q : Nat), .string oth, .agg (recC [.string ad, .string va, .int .i64 st, .int .i64 sz] B [.string tg, .int .i64 lo, .int .i64 hi, .int .i64 ga, .int .i64 se] S), .agg (recC [.int .i64 nu] B2 [.int .i64 lo2, .int .i64 hi2, .slice pa pl.length pc, .slice ra rl.length rc, .int .i64 se2] S2), .agg (leaseC s3 e3 u3 r3 S3), .agg (recC [.int .i64 si, .int .i64 sz4] B4 [.int .i64 lo4, .int .i64 hi4, .int .i64 se4] S4)] w fun e w' => e = .returned (.bool true) ∧ Below w.heap.size w w' := by
  have HLA := Lib.hid hla
  have HP := Lib.hid hp
  have HM := Lib.hid hmm
  have SNT := Lib.hid (fun (X : World) (h : Hs.LaidC X) => sanity_any X h)
  have HBA := Lib.hid hB
  have HBB := Lib.hid hB2
  have HBD := Lib.hid hB4
  have IA := Lib.hid (show (Tryd.prog.info? 58).map (·.size) = some (recC [.string ad, .string va, .int .i64 st, .int .i64 sz] B [.string tg, .int .i64 lo, .int .i64 hi, .int .i64 ga, .int .i64 se] S).size by rw [rec_size _ _ _ _ hB hS]; kernel_rfl)
  have IB := Lib.hid (show (Tryd.prog.info? 62).map (·.size) = some (recC [.int .i64 nu] B2 [.int .i64 lo2, .int .i64 hi2, .slice pa pl.length pc, .slice ra rl.length rc, .int .i64 se2] S2).size by rw [rec_size _ _ _ _ hB2 hS2]; kernel_rfl)
  have IC := Lib.hid (show (Tryd.prog.info? 64).map (·.size) = some (leaseC s3 e3 u3 r3 S3).size by rw [lease_size _ _ _ _ _ hS3]; kernel_rfl)
  have ID := Lib.hid (show (Tryd.prog.info? 66).map (·.size) = some (recC [.int .i64 si, .int .i64 sz4] B4 [.int .i64 lo4, .int .i64 hi4, .int .i64 se4] S4).size by rw [rec_size _ _ _ _ hB4 hS4]; kernel_rfl)
  have SS := Lib.hid (fun X : World => shortStamp_any ad va tg st sz lo hi ga se B S X hB)
  have SP := Lib.hid (fun (X : World) (h : EpM X pa pl ra rl) => shortEpoch_any nu lo2 hi2 se2 B2 S2 pa pc pl ra rc rl X hB2 h lP lR)
  have RG := Lib.hid (show ∀ X : World, RwA X a l → Calls Tryd.prog 11 #[.slice a l.length c] X fun e w' => e = .returned (.bool (ringB l)) ∧ Below X.heap.size X w' from fun X h => ring_any a c l X h hm)
  rw [hr] at RG
  rw [hsa] at SS
  obtain ⟨N, hN⟩ : ∃ N, l.length = N := ⟨_, rfl⟩
  have HN := Lib.hid hN
  simp only [hN] at RG
  rw [hN]
  rw [hN] at h h30
  have t0a : ((N : Int) == 0) = false := by simp; omega
  have t0b : ¬ (N : Int) = 0 := by omega
  have t0c : ¬ N = 0 := by omega
  have t0d : decide ((N : Int) = 0) = false := decide_eq_false t0b
  have t0e : decide (N = 0) = false := decide_eq_false t0c
  have t0f : (N == 0) = false := by simp; omega
  have t1 : decide ((30 : Int) < (N : Int)) = false := decide_eq_false (by omega)
  clear h h30
  clear hr hsa
  clear hla hp hm hmm hN hq8 hB hb hS hst hsz hlo hhi hga hse hB2 hb2 hS2 hnu hlo2 hhi2 hse2 hq hS3 hs3 he3 hu3 hr3 hB4 hb4 hS4 hsi hsz4 hlo4 hhi4 hse4 lP lR
  obtain ⟨G, hG⟩ : ∃ G, w.heap.size = G := ⟨_, rfl⟩
  have HG := Lib.hid hG
  obtain ⟨XA, hXA⟩ : ∃ C, (recC [.string ad, .string va, .int .i64 st, .int .i64 sz] B [.string tg, .int .i64 lo, .int .i64 hi, .int .i64 ga, .int .i64 se] S) = C := ⟨_, rfl⟩
  obtain ⟨XB, hXB⟩ : ∃ C, (recC [.int .i64 nu] B2 [.int .i64 lo2, .int .i64 hi2, .slice pa pl.length pc, .slice ra rl.length rc, .int .i64 se2] S2) = C := ⟨_, rfl⟩
  obtain ⟨XC, hXC⟩ : ∃ C, (leaseC s3 e3 u3 r3 S3) = C := ⟨_, rfl⟩
  obtain ⟨XD, hXD⟩ : ∃ C, (recC [.int .i64 si, .int .i64 sz4] B4 [.int .i64 lo4, .int .i64 hi4, .int .i64 se4] S4) = C := ⟨_, rfl⟩
  have KA := Lib.hid (show Blk ((((w.alloc (.cells XA 58)).alloc (.cells XB 62)).alloc (.cells XC 64)).alloc (.cells XD 66)) (G) 58 (recC [.string ad, .string va, .int .i64 st, .int .i64 sz] B [.string tg, .int .i64 lo, .int .i64 hi, .int .i64 ga, .int .i64 se] S) from by rw [hXA]; exact (((Blk.new' _ _ _ _ hG rfl).alloc _).alloc _).alloc _)
  have KB := Lib.hid (show Blk ((((w.alloc (.cells XA 58)).alloc (.cells XB 62)).alloc (.cells XC 64)).alloc (.cells XD 66)) (G + 1) 62 (recC [.int .i64 nu] B2 [.int .i64 lo2, .int .i64 hi2, .slice pa pl.length pc, .slice ra rl.length rc, .int .i64 se2] S2) from by rw [hXB]; exact ((Blk.new' _ _ _ _ (by rw [World.size_alloc, hG]) rfl).alloc _).alloc _)
  have KC := Lib.hid (show Blk ((((w.alloc (.cells XA 58)).alloc (.cells XB 62)).alloc (.cells XC 64)).alloc (.cells XD 66)) (G + 1 + 1) 64 (leaseC s3 e3 u3 r3 S3) from by rw [hXC]; exact (Blk.new' _ _ _ _ (by rw [World.size_alloc, World.size_alloc, hG]) rfl).alloc _)
  have KD := Lib.hid (show Blk ((((w.alloc (.cells XA 58)).alloc (.cells XB 62)).alloc (.cells XC 64)).alloc (.cells XD 66)) (G + 1 + 1 + 1) 66 (recC [.int .i64 si, .int .i64 sz4] B4 [.int .i64 lo4, .int .i64 hi4, .int .i64 se4] S4) from by rw [hXD]; exact Blk.new' _ _ _ _ (by rw [World.size_alloc, World.size_alloc, World.size_alloc, hG]) rfl)
  have B0 := Lib.hid (show Below w.heap.size w ((((w.alloc (.cells XA 58)).alloc (.cells XB 62)).alloc (.cells XC 64)).alloc (.cells XD 66)) by (repeat' (first | (with_reducible exact Below.refl _ _) | (with_reducible assumption) | (with_reducible refine Below.alloc ?_ ?_ _) | (with_reducible refine Below.drew ?_) | (with_reducible refine below_dn ?_) | (with_reducible refine Below.setCell ?_ ?_ _) | (with_reducible exact Nat.le_refl _) | omega | (simp only [World.size_alloc, World.size_setCell, World.size_drew]; omega) | (simp; omega) | (simp; done))))
  rw [hXA, hXB, hXC, hXD]
  clear hXA hXB hXC hXD
  go_enter Tryd.func8, Tryd.ntmps8
  go_upto_region 1 with (fail)
  try rw [hG]
  generalize hw0 : ((((w.alloc (.cells XA 58)).alloc (.cells XB 62)).alloc (.cells XC 64)).alloc (.cells XD 66)) = w0 at KA KB KC KD B0 ⊢
  clear hw0 hG
  go_wp2_with fail
  refine (RG.out _ (HP.out.mono B0.out)).mono ?_
  rintro e w1 ⟨rfl, hb⟩
  replace KA := Lib.hid (KA.out.below hb KA.out.lt)
  replace KB := Lib.hid (KB.out.below hb KB.out.lt)
  replace KC := Lib.hid (KC.out.below hb KC.out.lt)
  replace KD := Lib.hid (KD.out.below hb KD.out.lt)
  replace B0 := Lib.hid (B0.out.trans (hb.mono B0.out.size))
  clear hb
  go_wp2_with (with_reducible refine wpList_load_want (by kernel_rfl) 58 _ rfl (G) rfl 58 (recC [.string ad, .string va, .int .i64 st, .int .i64 sz] B [.string tg, .int .i64 lo, .int .i64 hi, .int .i64 ga, .int .i64 se] S) _ KA.out Tryd.underlying58 rfl IA.out ?_)
  refine (SS.out _).mono ?_
  rintro e w2 ⟨rfl, hb⟩
  replace KA := Lib.hid (KA.out.below hb KA.out.lt)
  replace KB := Lib.hid (KB.out.below hb KB.out.lt)
  replace KC := Lib.hid (KC.out.below hb KC.out.lt)
  replace KD := Lib.hid (KD.out.below hb KD.out.lt)
  replace B0 := Lib.hid (B0.out.trans (hb.mono B0.out.size))
  clear hb
  go_wp2_with fail
  refine (SNT.out _ (HLA.out.below B0.out)).mono ?_
  rintro e w3 ⟨rfl, hb⟩
  replace KA := Lib.hid (KA.out.below hb KA.out.lt)
  replace KB := Lib.hid (KB.out.below hb KB.out.lt)
  replace KC := Lib.hid (KC.out.below hb KC.out.lt)
  replace KD := Lib.hid (KD.out.below hb KD.out.lt)
  replace B0 := Lib.hid (B0.out.trans (hb.mono B0.out.size))
  clear hb
  go_wp2
  go_ret
  exact ⟨rfl, B0.out⟩
set_option maxRecDepth 100000 in
set_option maxHeartbeats 4000000 in
theorem law8_longB (a : Option Addr) (c : Nat) (l : List Rw) (q : Nat) (oth : ByteArray) (ad va tg : ByteArray) (st sz lo hi ga se : Int) (B S : List Nat) (nu lo2 hi2 se2 : Int) (B2 S2 : List Nat) (pa : Option Addr) (pc : Nat) (pl : List Pu) (ra : Option Addr) (rc : Nat) (rl : List Dg) (s3 e3 u3 r3 : Int) (S3 : List Nat) (si sz4 lo4 hi4 se4 : Int) (B4 S4 : List Nat) (w : World) (hp : RwA w a l) (hm : l.length ≤ 9223372036854775807) (hq8 : q < 256) (hB : B.length = 16) (hb : ∀ x ∈ B, x < 256) (hS : S.length = 16) (hst : i64Ok st) (hsz : i64Ok sz) (hlo : i64Ok lo) (hhi : i64Ok hi) (hga : i64Ok ga) (hse : i64Ok se) (hB2 : B2.length = 16) (hb2 : ∀ x ∈ B2, x < 256) (hS2 : S2.length = 16) (hnu : i64Ok nu) (hlo2 : i64Ok lo2) (hhi2 : i64Ok hi2) (hse2 : i64Ok se2) (hmm : EpM w pa pl ra rl) (lP : pl.length ≤ 9223372036854775807) (lR : rl.length ≤ 9223372036854775807) (hq : ∀ x ∈ pl, i64Ok x.1) (hS3 : S3.length = 16) (hs3 : i64Ok s3) (he3 : i64Ok e3) (hu3 : i64Ok u3) (hr3 : i64Ok r3) (hB4 : B4.length = 16) (hb4 : ∀ x ∈ B4, x < 256) (hS4 : S4.length = 16) (hsi : i64Ok si) (hsz4 : i64Ok sz4) (hlo4 : i64Ok lo4) (hhi4 : i64Ok hi4) (hse4 : i64Ok se4) (hla : Hs.LaidC w) (h : 0 < l.length) (h30 : ¬ 30 < l.length) (hr : ringB l = true) (hsa : shortB [ad, va, tg] 3 = true) (hsb : shortE pl rl = false) : Calls Tryd.prog 8 #[.slice a l.length c, .int .u8 (q : Nat), .string oth, .agg (recC [.string ad, .string va, .int .i64 st, .int .i64 sz] B [.string tg, .int .i64 lo, .int .i64 hi, .int .i64 ga, .int .i64 se] S), .agg (recC [.int .i64 nu] B2 [.int .i64 lo2, .int .i64 hi2, .slice pa pl.length pc, .slice ra rl.length rc, .int .i64 se2] S2), .agg (leaseC s3 e3 u3 r3 S3), .agg (recC [.int .i64 si, .int .i64 sz4] B4 [.int .i64 lo4, .int .i64 hi4, .int .i64 se4] S4)] w fun e w' => e = .returned (.bool true) ∧ Below w.heap.size w w' := by
  have HLA := Lib.hid hla
  have HP := Lib.hid hp
  have HM := Lib.hid hmm
  have SNT := Lib.hid (fun (X : World) (h : Hs.LaidC X) => sanity_any X h)
  have HBA := Lib.hid hB
  have HBB := Lib.hid hB2
  have HBD := Lib.hid hB4
  have IA := Lib.hid (show (Tryd.prog.info? 58).map (·.size) = some (recC [.string ad, .string va, .int .i64 st, .int .i64 sz] B [.string tg, .int .i64 lo, .int .i64 hi, .int .i64 ga, .int .i64 se] S).size by rw [rec_size _ _ _ _ hB hS]; kernel_rfl)
  have IB := Lib.hid (show (Tryd.prog.info? 62).map (·.size) = some (recC [.int .i64 nu] B2 [.int .i64 lo2, .int .i64 hi2, .slice pa pl.length pc, .slice ra rl.length rc, .int .i64 se2] S2).size by rw [rec_size _ _ _ _ hB2 hS2]; kernel_rfl)
  have IC := Lib.hid (show (Tryd.prog.info? 64).map (·.size) = some (leaseC s3 e3 u3 r3 S3).size by rw [lease_size _ _ _ _ _ hS3]; kernel_rfl)
  have ID := Lib.hid (show (Tryd.prog.info? 66).map (·.size) = some (recC [.int .i64 si, .int .i64 sz4] B4 [.int .i64 lo4, .int .i64 hi4, .int .i64 se4] S4).size by rw [rec_size _ _ _ _ hB4 hS4]; kernel_rfl)
  have SS := Lib.hid (fun X : World => shortStamp_any ad va tg st sz lo hi ga se B S X hB)
  have SP := Lib.hid (fun (X : World) (h : EpM X pa pl ra rl) => shortEpoch_any nu lo2 hi2 se2 B2 S2 pa pc pl ra rc rl X hB2 h lP lR)
  have RG := Lib.hid (show ∀ X : World, RwA X a l → Calls Tryd.prog 11 #[.slice a l.length c] X fun e w' => e = .returned (.bool (ringB l)) ∧ Below X.heap.size X w' from fun X h => ring_any a c l X h hm)
  rw [hr] at RG
  rw [hsa] at SS
  rw [hsb] at SP
  obtain ⟨N, hN⟩ : ∃ N, l.length = N := ⟨_, rfl⟩
  have HN := Lib.hid hN
  simp only [hN] at RG
  rw [hN]
  rw [hN] at h h30
  have t0a : ((N : Int) == 0) = false := by simp; omega
  have t0b : ¬ (N : Int) = 0 := by omega
  have t0c : ¬ N = 0 := by omega
  have t0d : decide ((N : Int) = 0) = false := decide_eq_false t0b
  have t0e : decide (N = 0) = false := decide_eq_false t0c
  have t0f : (N == 0) = false := by simp; omega
  have t1 : decide ((30 : Int) < (N : Int)) = false := decide_eq_false (by omega)
  clear h h30
  clear hr hsa hsb
  clear hla hp hm hmm hN hq8 hB hb hS hst hsz hlo hhi hga hse hB2 hb2 hS2 hnu hlo2 hhi2 hse2 hq hS3 hs3 he3 hu3 hr3 hB4 hb4 hS4 hsi hsz4 hlo4 hhi4 hse4 lP lR
  obtain ⟨G, hG⟩ : ∃ G, w.heap.size = G := ⟨_, rfl⟩
  have HG := Lib.hid hG
  obtain ⟨XA, hXA⟩ : ∃ C, (recC [.string ad, .string va, .int .i64 st, .int .i64 sz] B [.string tg, .int .i64 lo, .int .i64 hi, .int .i64 ga, .int .i64 se] S) = C := ⟨_, rfl⟩
  obtain ⟨XB, hXB⟩ : ∃ C, (recC [.int .i64 nu] B2 [.int .i64 lo2, .int .i64 hi2, .slice pa pl.length pc, .slice ra rl.length rc, .int .i64 se2] S2) = C := ⟨_, rfl⟩
  obtain ⟨XC, hXC⟩ : ∃ C, (leaseC s3 e3 u3 r3 S3) = C := ⟨_, rfl⟩
  obtain ⟨XD, hXD⟩ : ∃ C, (recC [.int .i64 si, .int .i64 sz4] B4 [.int .i64 lo4, .int .i64 hi4, .int .i64 se4] S4) = C := ⟨_, rfl⟩
  have KA := Lib.hid (show Blk ((((w.alloc (.cells XA 58)).alloc (.cells XB 62)).alloc (.cells XC 64)).alloc (.cells XD 66)) (G) 58 (recC [.string ad, .string va, .int .i64 st, .int .i64 sz] B [.string tg, .int .i64 lo, .int .i64 hi, .int .i64 ga, .int .i64 se] S) from by rw [hXA]; exact (((Blk.new' _ _ _ _ hG rfl).alloc _).alloc _).alloc _)
  have KB := Lib.hid (show Blk ((((w.alloc (.cells XA 58)).alloc (.cells XB 62)).alloc (.cells XC 64)).alloc (.cells XD 66)) (G + 1) 62 (recC [.int .i64 nu] B2 [.int .i64 lo2, .int .i64 hi2, .slice pa pl.length pc, .slice ra rl.length rc, .int .i64 se2] S2) from by rw [hXB]; exact ((Blk.new' _ _ _ _ (by rw [World.size_alloc, hG]) rfl).alloc _).alloc _)
  have KC := Lib.hid (show Blk ((((w.alloc (.cells XA 58)).alloc (.cells XB 62)).alloc (.cells XC 64)).alloc (.cells XD 66)) (G + 1 + 1) 64 (leaseC s3 e3 u3 r3 S3) from by rw [hXC]; exact (Blk.new' _ _ _ _ (by rw [World.size_alloc, World.size_alloc, hG]) rfl).alloc _)
  have KD := Lib.hid (show Blk ((((w.alloc (.cells XA 58)).alloc (.cells XB 62)).alloc (.cells XC 64)).alloc (.cells XD 66)) (G + 1 + 1 + 1) 66 (recC [.int .i64 si, .int .i64 sz4] B4 [.int .i64 lo4, .int .i64 hi4, .int .i64 se4] S4) from by rw [hXD]; exact Blk.new' _ _ _ _ (by rw [World.size_alloc, World.size_alloc, World.size_alloc, hG]) rfl)
  have B0 := Lib.hid (show Below w.heap.size w ((((w.alloc (.cells XA 58)).alloc (.cells XB 62)).alloc (.cells XC 64)).alloc (.cells XD 66)) by (repeat' (first | (with_reducible exact Below.refl _ _) | (with_reducible assumption) | (with_reducible refine Below.alloc ?_ ?_ _) | (with_reducible refine Below.drew ?_) | (with_reducible refine below_dn ?_) | (with_reducible refine Below.setCell ?_ ?_ _) | (with_reducible exact Nat.le_refl _) | omega | (simp only [World.size_alloc, World.size_setCell, World.size_drew]; omega) | (simp; omega) | (simp; done))))
  rw [hXA, hXB, hXC, hXD]
  clear hXA hXB hXC hXD
  go_enter Tryd.func8, Tryd.ntmps8
  go_upto_region 1 with (fail)
  try rw [hG]
  generalize hw0 : ((((w.alloc (.cells XA 58)).alloc (.cells XB 62)).alloc (.cells XC 64)).alloc (.cells XD 66)) = w0 at KA KB KC KD B0 ⊢
  clear hw0 hG
  go_wp2_with fail
  refine (RG.out _ (HP.out.mono B0.out)).mono ?_
  rintro e w1 ⟨rfl, hb⟩
  replace KA := Lib.hid (KA.out.below hb KA.out.lt)
  replace KB := Lib.hid (KB.out.below hb KB.out.lt)
  replace KC := Lib.hid (KC.out.below hb KC.out.lt)
  replace KD := Lib.hid (KD.out.below hb KD.out.lt)
  replace B0 := Lib.hid (B0.out.trans (hb.mono B0.out.size))
  clear hb
  go_wp2_with (with_reducible refine wpList_load_want (by kernel_rfl) 58 _ rfl (G) rfl 58 (recC [.string ad, .string va, .int .i64 st, .int .i64 sz] B [.string tg, .int .i64 lo, .int .i64 hi, .int .i64 ga, .int .i64 se] S) _ KA.out Tryd.underlying58 rfl IA.out ?_)
  refine (SS.out _).mono ?_
  rintro e w2 ⟨rfl, hb⟩
  replace KA := Lib.hid (KA.out.below hb KA.out.lt)
  replace KB := Lib.hid (KB.out.below hb KB.out.lt)
  replace KC := Lib.hid (KC.out.below hb KC.out.lt)
  replace KD := Lib.hid (KD.out.below hb KD.out.lt)
  replace B0 := Lib.hid (B0.out.trans (hb.mono B0.out.size))
  clear hb
  go_wp2_with (with_reducible refine wpList_load_want (by kernel_rfl) 62 _ rfl (G + 1) rfl 62 (recC [.int .i64 nu] B2 [.int .i64 lo2, .int .i64 hi2, .slice pa pl.length pc, .slice ra rl.length rc, .int .i64 se2] S2) _ KB.out Tryd.underlying62 rfl IB.out ?_)
  refine (SP.out _ (HM.out.mono B0.out)).mono ?_
  rintro e w3 ⟨rfl, hb⟩
  replace KA := Lib.hid (KA.out.below hb KA.out.lt)
  replace KB := Lib.hid (KB.out.below hb KB.out.lt)
  replace KC := Lib.hid (KC.out.below hb KC.out.lt)
  replace KD := Lib.hid (KD.out.below hb KD.out.lt)
  replace B0 := Lib.hid (B0.out.trans (hb.mono B0.out.size))
  clear hb
  go_wp2_with fail
  refine (SNT.out _ (HLA.out.below B0.out)).mono ?_
  rintro e w4 ⟨rfl, hb⟩
  replace KA := Lib.hid (KA.out.below hb KA.out.lt)
  replace KB := Lib.hid (KB.out.below hb KB.out.lt)
  replace KC := Lib.hid (KC.out.below hb KC.out.lt)
  replace KD := Lib.hid (KD.out.below hb KD.out.lt)
  replace B0 := Lib.hid (B0.out.trans (hb.mono B0.out.size))
  clear hb
  go_wp2
  go_ret
  exact ⟨rfl, B0.out⟩
end Go.Proofs.YtcdcnklfcmoiiaaDoor
