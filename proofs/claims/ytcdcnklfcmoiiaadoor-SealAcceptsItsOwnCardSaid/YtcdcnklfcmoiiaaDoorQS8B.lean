/- Contracts: law 8 of chapter 4. -/
import Derived.Test.YtcdcnklfcmoiiaaDoorQM8
import Derived.Test.YtcdcnklfcmoiiaaDoorQSS
import Derived.Test.YtcdcnklfcmoiiaaDoorQSE
import Derived.Test.YtcdcnklfcmoiiaaDoorQC1
import Derived.Test.YtcdcnklfcmoiiaaDoorQSR
import Derived.Test.YtcdcnklfcmoiiaaDoorQEQ
namespace Go.Proofs.YtcdcnklfcmoiiaaDoor
set_option linter.unusedVariables false
set_option linter.unusedSimpArgs false
open Go.RowKit Go.Sort
set_option maxRecDepth 100000 in
set_option maxHeartbeats 4000000 in
theorem law8_one (a : Option Addr) (c : Nat) (l : List Rw) (q : Nat) (oth : ByteArray) (ad va tg : ByteArray) (st sz lo hi ga se : Int) (B S : List Nat) (nu lo2 hi2 se2 : Int) (B2 S2 : List Nat) (pa : Option Addr) (pc : Nat) (pl : List Pu) (ra : Option Addr) (rc : Nat) (rl : List Dg) (s3 e3 u3 r3 : Int) (S3 : List Nat) (si sz4 lo4 hi4 se4 : Int) (B4 S4 : List Nat) (w : World) (hp : RwA w a l) (hm : l.length ≤ 9223372036854775807) (hq8 : q < 256) (hB : B.length = 16) (hb : ∀ x ∈ B, x < 256) (hS : S.length = 16) (hst : i64Ok st) (hsz : i64Ok sz) (hlo : i64Ok lo) (hhi : i64Ok hi) (hga : i64Ok ga) (hse : i64Ok se) (hB2 : B2.length = 16) (hb2 : ∀ x ∈ B2, x < 256) (hS2 : S2.length = 16) (hnu : i64Ok nu) (hlo2 : i64Ok lo2) (hhi2 : i64Ok hi2) (hse2 : i64Ok se2) (hmm : EpM w pa pl ra rl) (lP : pl.length ≤ 9223372036854775807) (lR : rl.length ≤ 9223372036854775807) (hq : ∀ x ∈ pl, i64Ok x.1) (hS3 : S3.length = 16) (hs3 : i64Ok s3) (he3 : i64Ok e3) (hu3 : i64Ok u3) (hr3 : i64Ok r3) (hB4 : B4.length = 16) (hb4 : ∀ x ∈ B4, x < 256) (hS4 : S4.length = 16) (hsi : i64Ok si) (hsz4 : i64Ok sz4) (hlo4 : i64Ok lo4) (hhi4 : i64Ok hi4) (hse4 : i64Ok se4) (hla : Hs.LaidC w) (h : 0 < l.length) (h30 : ¬ 30 < l.length) (hr : ringB l = true) (hsa : shortB [ad, va, tg] 3 = true) (hsb : shortE pl rl = true) (h1 : (l.getD (q % l.length) r0).1 = 1) : Calls Tryd.prog 8 #[.slice a l.length c, .int .u8 (q : Nat), .string oth, .agg (recC [.string ad, .string va, .int .i64 st, .int .i64 sz] B [.string tg, .int .i64 lo, .int .i64 hi, .int .i64 ga, .int .i64 se] S), .agg (recC [.int .i64 nu] B2 [.int .i64 lo2, .int .i64 hi2, .slice pa pl.length pc, .slice ra rl.length rc, .int .i64 se2] S2), .agg (leaseC s3 e3 u3 r3 S3), .agg (recC [.int .i64 si, .int .i64 sz4] B4 [.int .i64 lo4, .int .i64 hi4, .int .i64 se4] S4)] w fun e w' => e = .returned (.bool true) ∧ Below w.heap.size w w' := by
  have HLA := Lib.hid hla
  have HP := Lib.hid hp
  have HM := Lib.hid hmm
  have SNT := Lib.hid (fun (X : World) (h : Hs.LaidC X) => sanity_any X h)
  have HBA := Lib.hid hB
  have HBB := Lib.hid hB2
  have HBD := Lib.hid hB4
  have IA := Lib.hid (show (Tryd.prog.info? 58).map (·.size) = some (recC [.string ad, .string va, .int .i64 st, .int .i64 sz] B [.string tg, .int .i64 lo, .int .i64 hi, .int .i64 ga, .int .i64 se] S).size by rw [rec_size _ _ _ _ hB hS]; kernel_rfl)
  have IB := Lib.hid (show (Tryd.prog.info? 62).map (·.size) = some (recC [.int .i64 nu] B2 [.int .i64 lo2, .int .i64 hi2, .slice pa pl.length pc, .slice ra rl.length rc, .int .i64 se2] S2).size by rw [rec_size _ _ _ _ hB2 hS2]; kernel_rfl)
  have IC := Lib.hid (show (Tryd.prog.info? 64).map (·.size) = some (leaseC s3 e3 u3 r3 S3).size by rw [lease_size _ _ _ _ _ hS3]; kernel_rfl)
  have ID := Lib.hid (show (Tryd.prog.info? 66).map (·.size) = some (recC [.int .i64 si, .int .i64 sz4] B4 [.int .i64 lo4, .int .i64 hi4, .int .i64 se4] S4).size by rw [rec_size _ _ _ _ hB4 hS4]; kernel_rfl)
  have SS := Lib.hid (fun X : World => shortStamp_any ad va tg st sz lo hi ga se B S X hB)
  have SP := Lib.hid (fun (X : World) (h : EpM X pa pl ra rl) => shortEpoch_any nu lo2 hi2 se2 B2 S2 pa pc pl ra rc rl X hB2 h lP lR)
  have RG := Lib.hid (show ∀ X : World, RwA X a l → Calls Tryd.prog 11 #[.slice a l.length c] X fun e w' => e = .returned (.bool (ringB l)) ∧ Below X.heap.size X w' from fun X h => ring_any a c l X h hm)
  rw [hr] at RG
  rw [hsa] at SS
  rw [hsb] at SP
  have ok : RingOk l := of_decide_eq_true hr
  have hT2 := shortE_ok hsb hq
  have hT : ad.size ≤ 200 ∧ va.size ≤ 200 ∧ tg.size ≤ 200 := by
    have q := (of_decide_eq_true hsa).1
    exact ⟨q 0 (by simp), q 1 (by simp), q 2 (by simp)⟩
  obtain ⟨i, hqi⟩ : ∃ i, q % l.length = i := ⟨_, rfl⟩
  have hil : i < l.length := by rw [← hqi]; exact Nat.mod_lt _ h
  obtain ⟨⟨k1, k2, k3, k4, k5⟩, hx⟩ : ∃ x, l.getD i r0 = x := ⟨_, rfl⟩
  rw [hqi, hx] at h1
  simp only at h1
  subst h1
  skip
  have hkey : keyOk (1, k2, k3, k4, k5) := by rw [← hx]; exact ok.keys i hil
  have hkey2 := hkey
  unfold keyOk at hkey2
  simp only at hkey2
  have hk1 : i64Ok 1 ∧ i64Ok k2 := by unfold i64Ok; omega
  have hsz3 : k3.size ≤ 400 := by omega
  obtain ⟨VA, hVA⟩ : ∃ V, mkS 41 k3 (stampP ad va tg st sz lo hi 1 k2 B) = V := ⟨_, rfl⟩
  have lVA : VA.length = 16 := by rw [← hVA]; exact mkS_len _ _ _
  obtain ⟨VB, hVB⟩ : ∃ V, mkS 42 k3 (epochP nu lo2 hi2 k2 B2 pl rl) = V := ⟨_, rfl⟩
  have lVB : VB.length = 16 := by rw [← hVB]; exact mkS_len _ _ _
  obtain ⟨VC, hVC⟩ : ∃ V, mkS 43 k3 [leaseP s3 e3 u3 k2] = V := ⟨_, rfl⟩
  have lVC : VC.length = 16 := by rw [← hVC]; exact mkS_len _ _ _
  obtain ⟨ss, hss⟩ : ∃ x : Int, (1 : Int) - 1000 = x := ⟨_, rfl⟩
  have ess : ss = -999 := by omega
  subst ess
  have wss : IntKind.i64.wrap (1 - 1000) = (-999) := by rw [IntKind.wrap_i64]; omega
  have oss : i64Ok (-999) := by unfold i64Ok; omega
  have HSS := Lib.hid (show ¬ 0 ≤ (-999) by omega)
  obtain ⟨VD, hVD⟩ : ∃ V, mkS 44 k3 (headP (-999) sz4 lo4 hi4 k2 B4) = V := ⟨_, rfl⟩
  have lVD : VD.length = 16 := by rw [← hVD]; exact mkS_len _ _ _
  obtain ⟨V8, hV8⟩ : ∃ V, mkS 41 oth (stampP ad va tg st sz lo hi 1 k2 B) = V := ⟨_, rfl⟩
  have lV8 : V8.length = 16 := by rw [← hV8]; exact mkS_len _ _ _
  have Z1 := Lib.hid (show ∀ X : World, Hs.LaidC X → Calls Tryd.prog 38 #[.agg #[.int .i64 1, .int .i64 k2, .string k3, .int .i64 k4, .int .i64 k5], .agg (recC [.string ad, .string va, .int .i64 st, .int .i64 sz] B [.string tg, .int .i64 lo, .int .i64 hi, .int .i64 ga, .int .i64 se] S)] X fun e w' => e = .returned (.agg (recC [.string ad, .string va, .int .i64 st, .int .i64 sz] B [.string tg, .int .i64 lo, .int .i64 hi, .int .i64 1, .int .i64 k2] VA)) ∧ Below X.heap.size X w' from fun X hl => by rw [← hVA]; exact sealStamp_any (1, k2, k3, k4, k5) ad va tg st sz lo hi ga se B S X hB hS hb hst hsz hlo hhi hga hse hT hk1 hsz3 hl)
  have CT := Lib.hid (fun (lo hi : Int) (X : World) => show Calls Tryd.prog 55 #[.agg #[.int .i64 1, .int .i64 k2, .string k3, .int .i64 k4, .int .i64 k5], .agg #[.int .i64 lo, .int .i64 hi]] X fun e w' => e = .returned (.bool (countsB (1, k2, k3, k4, k5) lo hi)) ∧ Below X.heap.size X w' from rcounts_any (1, k2, k3, k4, k5) lo hi X)
  have F1 := Lib.hid (show countsB (1, k2, k3, k4, k5) lo hi = true → ∀ X : World, RwA X a l → Hs.LaidC X → Calls Tryd.prog 47 #[.slice a l.length c, .agg (recC [.string ad, .string va, .int .i64 st, .int .i64 sz] B [.string tg, .int .i64 lo, .int .i64 hi, .int .i64 1, .int .i64 k2] VA)] X fun e w' => e = .returned (.int .i64 0) ∧ Below X.heap.size X w' from fun hc X h hl => by
    have q := checkStamp_any a c l ad va tg st sz lo hi 1 k2 B VA X h ok hB hb lVA hst hsz hlo hhi hk1.1 hk1.2 hT hl
    rw [← hVA] at q ⊢
    rw [chk_own ok hil hx rfl 41 _ hc] at q
    exact q)
  have Z3 := Lib.hid (show ∀ X : World, EpM X pa pl ra rl → Hs.LaidC X → Calls Tryd.prog 41 #[.agg #[.int .i64 1, .int .i64 k2, .string k3, .int .i64 k4, .int .i64 k5], .agg (recC [.int .i64 nu] B2 [.int .i64 lo2, .int .i64 hi2, .slice pa pl.length pc, .slice ra rl.length rc, .int .i64 se2] S2)] X fun e w' => ∃ a1 c1 a2 c2, e = .returned (.agg (recC [.int .i64 nu] B2 [.int .i64 lo2, .int .i64 hi2, .slice a1 pl.length c1, .slice a2 rl.length c2, .int .i64 k2] VB)) ∧ EpM w' a1 pl a2 rl ∧ FrE a1 a2 X.heap.size ∧ Below X.heap.size X w' from fun X hm hl => by rw [← hVB]; exact sealEpoch_fr (1, k2, k3, k4, k5) nu lo2 hi2 se2 B2 S2 pa pc pl ra rc rl X hB2 hS2 hb2 hnu hlo2 hhi2 hse2 hT2 hk1 hsz3 hm hl)
  have F3 := Lib.hid (show (1 : Int) = 1 → countsB (1, k2, k3, k4, k5) lo2 hi2 = true → ∀ (a1 : Option Addr) (c1 : Nat) (a2 : Option Addr) (c2 : Nat) (X : World), RwA X a l → EpM X a1 pl a2 rl → Hs.LaidC X → Calls Tryd.prog 49 #[.slice a l.length c, .agg (recC [.int .i64 nu] B2 [.int .i64 lo2, .int .i64 hi2, .slice a1 pl.length c1, .slice a2 rl.length c2, .int .i64 k2] VB)] X fun e w' => e = .returned (.int .i64 0) ∧ Below X.heap.size X w' from fun h1 hc a1 c1 a2 c2 X h hm hl => by
    have q := checkEpoch_any a c l nu lo2 hi2 k2 B2 VB a1 c1 pl a2 c2 rl X h ok hB2 hb2 lVB hnu hlo2 hhi2 hk1.2 hT2 hm hl
    rw [← hVB] at q ⊢
    rw [chk_own ok hil hx (p := 1) h1.symm 42 _ hc] at q
    exact q)
  have Z5 := Lib.hid (show ∀ X : World, Hs.LaidC X → Calls Tryd.prog 43 #[.agg #[.int .i64 1, .int .i64 k2, .string k3, .int .i64 k4, .int .i64 k5], .agg (leaseC s3 e3 u3 r3 S3)] X fun e w' => e = .returned (.agg (leaseC s3 e3 u3 k2 VC)) ∧ Below X.heap.size X w' from fun X hl => by rw [← hVC]; exact sealLease_any (1, k2, k3, k4, k5) s3 e3 u3 r3 S3 X hS3 hs3 he3 hu3 hk1.2 hsz3 hl)
  have F5 := Lib.hid (show (1 : Int) = 1 → 0 ≤ s3 → s3 < 64 → k4 < u3 → u3 ≤ k5 → ∀ X : World, RwA X a l → Hs.LaidC X → Calls Tryd.prog 51 #[.slice a l.length c, .agg (leaseC s3 e3 u3 k2 VC)] X fun e w' => e = .returned (.int .i64 0) ∧ Below X.heap.size X w' from fun h1 g1 g2 g3 g4 X h hl => by
    have q := checkLease_any a c l s3 e3 u3 k2 VC X h ok lVC ⟨g1, g2⟩ hs3 he3 ⟨hu3, by unfold i64Ok; omega⟩ hk1.2 hl
    rw [← hVC] at q ⊢
    rw [chk_own ok hil hx (p := 1) h1.symm 43 _ (counts_until hkey g3 g4)] at q
    exact q)
  have Z7 := Lib.hid (show ∀ X : World, Hs.LaidC X → Calls Tryd.prog 45 #[.agg #[.int .i64 1, .int .i64 k2, .string k3, .int .i64 k4, .int .i64 k5], .agg (recC [.int .i64 (-999), .int .i64 sz4] B4 [.int .i64 lo4, .int .i64 hi4, .int .i64 se4] S4)] X fun e w' => e = .returned (.agg (recC [.int .i64 (-999), .int .i64 sz4] B4 [.int .i64 lo4, .int .i64 hi4, .int .i64 k2] VD)) ∧ Below X.heap.size X w' from fun X hl => by rw [← hVD]; exact sealHead_any (1, k2, k3, k4, k5) (-999) sz4 lo4 hi4 se4 B4 S4 X hB4 hS4 hb4 oss hsz4 hlo4 hhi4 hse4 hk1 hsz3 hl)
  have F7 := Lib.hid (show 0 ≤ (-999) → (-999) < 64 → countsB (1, k2, k3, k4, k5) lo4 hi4 = true → ∀ X : World, RwA X a l → Hs.LaidC X → Calls Tryd.prog 53 #[.slice a l.length c, .agg (recC [.int .i64 (-999), .int .i64 sz4] B4 [.int .i64 lo4, .int .i64 hi4, .int .i64 k2] VD)] X fun e w' => e = .returned (.int .i64 0) ∧ Below X.heap.size X w' from fun g1 g2 hc X h hl => by
    have q := checkHead_any a c l (-999) sz4 lo4 hi4 k2 B4 VD X h ok hB4 hb4 lVD oss hsz4 hlo4 hhi4 hk1.2 ⟨g1, g2⟩ hl
    rw [← hVD] at q ⊢
    rw [chk_own ok hil hx (p := 1000 + (-999)) (by omega) 44 _ hc] at q
    exact q)
  obtain ⟨rB, hrB⟩ : ∃ r, ringB (l.set i (1, k2, oth, k4, k5)) = r := ⟨_, rfl⟩
  have lLB : (l.set i (1, k2, oth, k4, k5)).length = l.length := List.length_set
  have RB := Lib.hid (show ∀ (X : World) (b : Option Addr) (n : Nat), RwA X b (l.set i (1, k2, oth, k4, k5)) → Calls Tryd.prog 11 #[.slice b l.length n] X fun e w' => e = .returned (.bool rB) ∧ Below X.heap.size X w' from fun X b n h => by
    have q := ring_any b n (l.set i (1, k2, oth, k4, k5)) X h (by rw [lLB]; exact hm)
    rw [hrB, lLB] at q
    exact q)
  have F8 := Lib.hid (show rB = true → countsB (1, k2, k3, k4, k5) lo hi = true → ∀ (X : World) (b : Option Addr) (n : Nat), RwA X b (l.set i (1, k2, oth, k4, k5)) → Hs.LaidC X → Calls Tryd.prog 47 #[.slice b l.length n, .agg (recC [.string ad, .string va, .int .i64 st, .int .i64 sz] B [.string tg, .int .i64 lo, .int .i64 hi, .int .i64 1, .int .i64 k2] VA)] X fun e w' => e = .returned (.int .i64 (if V8 = VA then 0 else 8)) ∧ Below X.heap.size X w' from fun hb8 hc X b n h hl => by
    have okb : RingOk (l.set i (1, k2, oth, k4, k5)) := of_decide_eq_true (hrB.trans hb8)
    have q := checkStamp_any b n (l.set i (1, k2, oth, k4, k5)) ad va tg st sz lo hi 1 k2 B VA X h okb hB hb lVA hst hsz hlo hhi hk1.1 hk1.2 hT hl
    rw [chk_other okb (i := i) (x := (1, k2, oth, k4, k5)) (by rw [lLB]; exact hil) (getD_set_eq l i _ hil) 41 _ _ (by rw [counts_same 1 k2 k3]; exact hc), lLB] at q
    rw [← hV8]
    exact q)
  have Z8 := Lib.hid (show rB = true → ∀ X : World, Hs.LaidC X → Calls Tryd.prog 38 #[.agg #[.int .i64 1, .int .i64 k2, .string oth, .int .i64 k4, .int .i64 k5], .agg (recC [.string ad, .string va, .int .i64 st, .int .i64 sz] B [.string tg, .int .i64 lo, .int .i64 hi, .int .i64 1, .int .i64 k2] VA)] X fun e w' => e = .returned (.agg (recC [.string ad, .string va, .int .i64 st, .int .i64 sz] B [.string tg, .int .i64 lo, .int .i64 hi, .int .i64 1, .int .i64 k2] V8)) ∧ Below X.heap.size X w' from fun hb8 X hl => by
    have okb : RingOk (l.set i (1, k2, oth, k4, k5)) := of_decide_eq_true (hrB.trans hb8)
    have hko := okb.keys i (by rw [lLB]; exact hil)
    rw [getD_set_eq l i _ hil] at hko
    unfold keyOk at hko
    simp only at hko
    rw [← hV8]
    exact sealStamp_any (1, k2, oth, k4, k5) ad va tg st sz lo hi 1 k2 B VA X hB lVA hb hst hsz hlo hhi hk1.1 hk1.2 hT hk1 (by show oth.size ≤ 400; omega) hl)
  have EQ8 := Lib.hid (fun W : World => show (Op.equalIn 10000 50 (.agg (V8.map Hs.bv).toArray) (.agg (VA.map Hs.bv).toArray)).run Tryd.prog W = .ok (decide (V8 = VA)) W from equalIn_16g Tryd.underlying50 9998 V8 VA lV8 lVA W)
  have X8 := Lib.hid (fun W : World => field8 ad va tg st sz lo hi 1 k2 B V8 W hB lV8)
  have JA := Lib.hid (show (Tryd.prog.info? 58).map (·.size) = some (recC [.string ad, .string va, .int .i64 st, .int .i64 sz] B [.string tg, .int .i64 lo, .int .i64 hi, .int .i64 1, .int .i64 k2] VA).size by rw [rec_size _ _ _ _ hB lVA]; kernel_rfl)
  have JAs := Lib.hid (show (recC [.string ad, .string va, .int .i64 st, .int .i64 sz] B [.string tg, .int .i64 lo, .int .i64 hi, .int .i64 ga, .int .i64 se] S).size = (recC [.string ad, .string va, .int .i64 st, .int .i64 sz] B [.string tg, .int .i64 lo, .int .i64 hi, .int .i64 1, .int .i64 k2] VA).size by rw [rec_size _ _ _ _ hB hS, rec_size _ _ _ _ hB lVA]; rfl)
  have JAo := Lib.hid (rec_one [.string ad, .string va, .int .i64 st, .int .i64 sz] B [.string tg, .int .i64 lo, .int .i64 hi, .int .i64 1, .int .i64 k2] VA rfl rfl)
  have JB := Lib.hid (fun (a1 a2 : Option Addr) (c1 c2 : Nat) => show (Tryd.prog.info? 62).map (·.size) = some (recC [.int .i64 nu] B2 [.int .i64 lo2, .int .i64 hi2, .slice a1 pl.length c1, .slice a2 rl.length c2, .int .i64 k2] VB).size by rw [rec_size _ _ _ _ hB2 lVB]; kernel_rfl)
  have JBs := Lib.hid (fun (a1 a2 : Option Addr) (c1 c2 : Nat) => show (recC [.int .i64 nu] B2 [.int .i64 lo2, .int .i64 hi2, .slice pa pl.length pc, .slice ra rl.length rc, .int .i64 se2] S2).size = (recC [.int .i64 nu] B2 [.int .i64 lo2, .int .i64 hi2, .slice a1 pl.length c1, .slice a2 rl.length c2, .int .i64 k2] VB).size by rw [rec_size _ _ _ _ hB2 hS2, rec_size _ _ _ _ hB2 lVB]; rfl)
  have JBo := Lib.hid (fun (a1 a2 : Option Addr) (c1 c2 : Nat) => show (recC [.int .i64 nu] B2 [.int .i64 lo2, .int .i64 hi2, .slice a1 pl.length c1, .slice a2 rl.length c2, .int .i64 k2] VB).all (·.oneCell') = true from rec_one _ _ _ _ rfl rfl)
  have JC := Lib.hid (show (Tryd.prog.info? 64).map (·.size) = some (leaseC s3 e3 u3 k2 VC).size by rw [lease_size _ _ _ _ _ lVC]; kernel_rfl)
  have JCs := Lib.hid (show (leaseC s3 e3 u3 r3 S3).size = (leaseC s3 e3 u3 k2 VC).size by rw [lease_size _ _ _ _ _ hS3, lease_size _ _ _ _ _ lVC])
  have JCo := Lib.hid (lease_one s3 e3 u3 k2 VC)
  have JDs := Lib.hid (rec_setA [.int .i64 si, .int .i64 sz4] B4 [.int .i64 lo4, .int .i64 hi4, .int .i64 se4] S4 0 (.int .i64 (-999)) (by simp))
  have ID2 := Lib.hid (show (Tryd.prog.info? 66).map (·.size) = some (recC [.int .i64 (-999), .int .i64 sz4] B4 [.int .i64 lo4, .int .i64 hi4, .int .i64 se4] S4).size by rw [rec_size _ _ _ _ hB4 hS4]; kernel_rfl)
  have JD := Lib.hid (show (Tryd.prog.info? 66).map (·.size) = some (recC [.int .i64 (-999), .int .i64 sz4] B4 [.int .i64 lo4, .int .i64 hi4, .int .i64 k2] VD).size by rw [rec_size _ _ _ _ hB4 lVD]; kernel_rfl)
  have JDz := Lib.hid (show (recC [.int .i64 (-999), .int .i64 sz4] B4 [.int .i64 lo4, .int .i64 hi4, .int .i64 se4] S4).size = (recC [.int .i64 (-999), .int .i64 sz4] B4 [.int .i64 lo4, .int .i64 hi4, .int .i64 k2] VD).size by rw [rec_size _ _ _ _ hB4 hS4, rec_size _ _ _ _ hB4 lVD]; rfl)
  have JDo := Lib.hid (rec_one [.int .i64 (-999), .int .i64 sz4] B4 [.int .i64 lo4, .int .i64 hi4, .int .i64 k2] VD rfl rfl)
  have PI := Lib.hid (fun lo hi : Int => show (Tryd.prog.info? 26).map (·.size) = some ([.int .i64 lo, .int .i64 hi] : List Value).length by kernel_rfl)
  have SI := Lib.hid (show (Tryd.prog.info? 50).map (·.size) = some (VA.map Hs.bv).length by rw [List.length_map, lVA]; kernel_rfl)
  have HX := Lib.hid hx
  have HN30 := Lib.hid h30
  have HI := Lib.hid hil
  have HQ := Lib.hid hqi
  have HKY := Lib.hid hkey2
  obtain ⟨N, hN⟩ : ∃ N, l.length = N := ⟨_, rfl⟩
  have HN := Lib.hid hN
  simp only [hN] at RG F1 F3 F5 F7 RB F8
  rw [hN]
  rw [hN] at h h30 hqi hil
  have t0a : ((N : Int) == 0) = false := by simp; omega
  have t0b : ¬ (N : Int) = 0 := by omega
  have t0c : ¬ N = 0 := by omega
  have t0d : decide ((N : Int) = 0) = false := decide_eq_false t0b
  have t0e : decide (N = 0) = false := decide_eq_false t0c
  have t0f : (N == 0) = false := by simp; omega
  have t1 : decide ((30 : Int) < (N : Int)) = false := decide_eq_false (by omega)
  have i0 : (0 : Int) ≤ (i : Int) := by omega
  have iN : (i : Int) < (N : Int) := by omega
  have hrem : ((q : Int)).tmod (N : Int) = (i : Int) := by rw [Int.tmod_eq_emod_of_nonneg (by omega)]; omega
  have hrem2 : (q : Int) % (N : Int) = (i : Int) := by omega
  have wq : IntKind.i64.wrap (q : Int) = (q : Int) := by rw [IntKind.wrap_i64]; omega
  clear h h30 hr hsa hsb ok hT2 hT hx hkey hkey2 hk1 hsz3 hVA lVA hVB lVB hVC lVC hss oss hVD lVD hV8 lV8 hrB lLB hqi hil
  clear hla hp hm hmm hN hq8 hB hb hS hst hsz hlo hhi hga hse hB2 hb2 hS2 hnu hlo2 hhi2 hse2 hq hS3 hs3 he3 hu3 hr3 hB4 hb4 hS4 hsi hsz4 hlo4 hhi4 hse4 lP lR
  obtain ⟨G, hG⟩ : ∃ G, w.heap.size = G := ⟨_, rfl⟩
  have HG := Lib.hid hG
  obtain ⟨XA, hXA⟩ : ∃ C, (recC [.string ad, .string va, .int .i64 st, .int .i64 sz] B [.string tg, .int .i64 lo, .int .i64 hi, .int .i64 ga, .int .i64 se] S) = C := ⟨_, rfl⟩
  obtain ⟨XB, hXB⟩ : ∃ C, (recC [.int .i64 nu] B2 [.int .i64 lo2, .int .i64 hi2, .slice pa pl.length pc, .slice ra rl.length rc, .int .i64 se2] S2) = C := ⟨_, rfl⟩
  obtain ⟨XC, hXC⟩ : ∃ C, (leaseC s3 e3 u3 r3 S3) = C := ⟨_, rfl⟩
  obtain ⟨XD, hXD⟩ : ∃ C, (recC [.int .i64 si, .int .i64 sz4] B4 [.int .i64 lo4, .int .i64 hi4, .int .i64 se4] S4) = C := ⟨_, rfl⟩
  have KA := Lib.hid (show Blk ((((w.alloc (.cells XA 58)).alloc (.cells XB 62)).alloc (.cells XC 64)).alloc (.cells XD 66)) (G) 58 (recC [.string ad, .string va, .int .i64 st, .int .i64 sz] B [.string tg, .int .i64 lo, .int .i64 hi, .int .i64 ga, .int .i64 se] S) from by rw [hXA]; exact (((Blk.new' _ _ _ _ hG rfl).alloc _).alloc _).alloc _)
  have KB := Lib.hid (show Blk ((((w.alloc (.cells XA 58)).alloc (.cells XB 62)).alloc (.cells XC 64)).alloc (.cells XD 66)) (G + 1) 62 (recC [.int .i64 nu] B2 [.int .i64 lo2, .int .i64 hi2, .slice pa pl.length pc, .slice ra rl.length rc, .int .i64 se2] S2) from by rw [hXB]; exact ((Blk.new' _ _ _ _ (by rw [World.size_alloc, hG]) rfl).alloc _).alloc _)
  have KC := Lib.hid (show Blk ((((w.alloc (.cells XA 58)).alloc (.cells XB 62)).alloc (.cells XC 64)).alloc (.cells XD 66)) (G + 1 + 1) 64 (leaseC s3 e3 u3 r3 S3) from by rw [hXC]; exact (Blk.new' _ _ _ _ (by rw [World.size_alloc, World.size_alloc, hG]) rfl).alloc _)
  have KD := Lib.hid (show Blk ((((w.alloc (.cells XA 58)).alloc (.cells XB 62)).alloc (.cells XC 64)).alloc (.cells XD 66)) (G + 1 + 1 + 1) 66 (recC [.int .i64 si, .int .i64 sz4] B4 [.int .i64 lo4, .int .i64 hi4, .int .i64 se4] S4) from by rw [hXD]; exact Blk.new' _ _ _ _ (by rw [World.size_alloc, World.size_alloc, World.size_alloc, hG]) rfl)
  have B0 := Lib.hid (show Below w.heap.size w ((((w.alloc (.cells XA 58)).alloc (.cells XB 62)).alloc (.cells XC 64)).alloc (.cells XD 66)) by (repeat' (first | (with_reducible exact Below.refl _ _) | (with_reducible assumption) | (with_reducible refine Below.alloc ?_ ?_ _) | (with_reducible refine Below.drew ?_) | (with_reducible refine below_dn ?_) | (with_reducible refine Below.setCell ?_ ?_ _) | (with_reducible exact Nat.le_refl _) | omega | (simp only [World.size_alloc, World.size_setCell, World.size_drew]; omega) | (simp; omega) | (simp; done))))
  rw [hXA, hXB, hXC, hXD]
  clear hXA hXB hXC hXD
  go_enter Tryd.func8, Tryd.ntmps8
  go_upto_region 1 with (fail)
  try rw [hG]
  generalize hw0 : ((((w.alloc (.cells XA 58)).alloc (.cells XB 62)).alloc (.cells XC 64)).alloc (.cells XD 66)) = w0 at KA KB KC KD B0 ⊢
  clear hw0 hG
  go_wp2_with fail
  refine (RG.out _ (HP.out.mono B0.out)).mono ?_
  rintro e w1 ⟨rfl, hb⟩
  replace KA := Lib.hid (KA.out.below hb KA.out.lt)
  replace KB := Lib.hid (KB.out.below hb KB.out.lt)
  replace KC := Lib.hid (KC.out.below hb KC.out.lt)
  replace KD := Lib.hid (KD.out.below hb KD.out.lt)
  replace B0 := Lib.hid (B0.out.trans (hb.mono B0.out.size))
  clear hb
  go_wp2_with (with_reducible refine wpList_load_want (by kernel_rfl) 58 _ rfl (G) rfl 58 (recC [.string ad, .string va, .int .i64 st, .int .i64 sz] B [.string tg, .int .i64 lo, .int .i64 hi, .int .i64 ga, .int .i64 se] S) _ KA.out Tryd.underlying58 rfl IA.out ?_)
  refine (SS.out _).mono ?_
  rintro e w2 ⟨rfl, hb⟩
  replace KA := Lib.hid (KA.out.below hb KA.out.lt)
  replace KB := Lib.hid (KB.out.below hb KB.out.lt)
  replace KC := Lib.hid (KC.out.below hb KC.out.lt)
  replace KD := Lib.hid (KD.out.below hb KD.out.lt)
  replace B0 := Lib.hid (B0.out.trans (hb.mono B0.out.size))
  clear hb
  go_wp2_with (with_reducible refine wpList_load_want (by kernel_rfl) 62 _ rfl (G + 1) rfl 62 (recC [.int .i64 nu] B2 [.int .i64 lo2, .int .i64 hi2, .slice pa pl.length pc, .slice ra rl.length rc, .int .i64 se2] S2) _ KB.out Tryd.underlying62 rfl IB.out ?_)
  refine (SP.out _ (HM.out.mono B0.out)).mono ?_
  rintro e w3 ⟨rfl, hb⟩
  replace KA := Lib.hid (KA.out.below hb KA.out.lt)
  replace KB := Lib.hid (KB.out.below hb KB.out.lt)
  replace KC := Lib.hid (KC.out.below hb KC.out.lt)
  replace KD := Lib.hid (KD.out.below hb KD.out.lt)
  replace B0 := Lib.hid (B0.out.trans (hb.mono B0.out.size))
  clear hb
  clear SS SP RG
  obtain ⟨bk, fk, rfl, q0, q1, q2, q3, q4⟩ := RwA.at_ (HP.out.mono B0.out) (k := i) (by rw [HN.out]; exact_mod_cast iN)
  rw [HX.out] at q0 q1 q2 q3 q4
  simp only at q0 q1 q2 q3 q4
  obtain ⟨gk, hgk⟩ : ∃ G, w3.heap.size = G := ⟨_, rfl⟩
  have KK := Lib.hid (show Blk (w3.alloc (.cells #[.int .i64 1, .int .i64 k2, .string k3, .int .i64 k4, .int .i64 k5] 24)) gk 24 #[.int .i64 1, .int .i64 k2, .string k3, .int .i64 k4, .int .i64 k5] from Blk.new' w3 _ _ _ hgk rfl)
  have NA := Lib.hid (show G < gk from by rw [← hgk]; exact KA.out.lt)
  have NB := Lib.hid (show G + 1 < gk from by rw [← hgk]; exact KB.out.lt)
  have NC := Lib.hid (show G + 1 + 1 < gk from by rw [← hgk]; exact KC.out.lt)
  have ND := Lib.hid (show G + 1 + 1 + 1 < gk from by rw [← hgk]; exact KD.out.lt)
  replace KA := Lib.hid (KA.out.alloc (.cells #[.int .i64 1, .int .i64 k2, .string k3, .int .i64 k4, .int .i64 k5] 24))
  replace KB := Lib.hid (KB.out.alloc (.cells #[.int .i64 1, .int .i64 k2, .string k3, .int .i64 k4, .int .i64 k5] 24))
  replace KC := Lib.hid (KC.out.alloc (.cells #[.int .i64 1, .int .i64 k2, .string k3, .int .i64 k4, .int .i64 k5] 24))
  replace KD := Lib.hid (KD.out.alloc (.cells #[.int .i64 1, .int .i64 k2, .string k3, .int .i64 k4, .int .i64 k5] 24))
  have LGK := Lib.hid (show w.heap.size ≤ gk from by rw [← hgk]; exact B0.out.size)
  replace B0 := Lib.hid (B0.out.alloc B0.out.size (.cells #[.int .i64 1, .int .i64 k2, .string k3, .int .i64 k4, .int .i64 k5] 24))
  go_upto_region 4 with (fail)
  try rw [hgk]
  generalize hw : w3.alloc (.cells #[.int .i64 1, .int .i64 k2, .string k3, .int .i64 k4, .int .i64 k5] 24) = w5 at KK KA KB KC KD B0 ⊢
  clear hw hgk q0 q1 q2 q3 q4
  obtain ⟨z0, z1, z2, z3, z4⟩ := five KK.out
  have HkA := Lib.hid (show Hs.Blk w5 G 58 (recC [.string ad, .string va, .int .i64 st, .int .i64 sz] B [.string tg, .int .i64 lo, .int .i64 hi, .int .i64 ga, .int .i64 se] S) from KA.out)
  go_wp2_with (with_reducible refine Hs.wpList_load_all rfl 58 _ rfl G rfl 58 (recC [.string ad, .string va, .int .i64 st, .int .i64 sz] B [.string tg, .int .i64 lo, .int .i64 hi, .int .i64 ga, .int .i64 se] S) _ HkA.out Tryd.underlying58 IA.out ?_)
  refine (Z1.out _ (HLA.out.below B0.out)).mono ?_
  rintro e w6 ⟨rfl, hb⟩
  replace KA := Lib.hid (KA.out.below hb KA.out.lt)
  replace KB := Lib.hid (KB.out.below hb KB.out.lt)
  replace KC := Lib.hid (KC.out.below hb KC.out.lt)
  replace KD := Lib.hid (KD.out.below hb KD.out.lt)
  replace KK := Lib.hid (KK.out.below hb KK.out.lt)
  replace B0 := Lib.hid (B0.out.trans (hb.mono B0.out.size))
  clear hb z0 z1 z2 z3 z4 HkA
  have HkA := Lib.hid (show Hs.Blk w6 G 58 (recC [.string ad, .string va, .int .i64 st, .int .i64 sz] B [.string tg, .int .i64 lo, .int .i64 hi, .int .i64 ga, .int .i64 se] S) from KA.out)
  go_upto_region 5 with (with_reducible refine Hs.wpList_store_blk rfl 58 _ _ rfl G 58 _ (recC [.string ad, .string va, .int .i64 st, .int .i64 sz] B [.string tg, .int .i64 lo, .int .i64 hi, .int .i64 1, .int .i64 k2] VA) rfl rfl HkA.out JA.out JAs.out JAo.out rfl ?_)
  replace KA := Lib.hid (show Blk (w6.setRow G (recC [.string ad, .string va, .int .i64 st, .int .i64 sz] B [.string tg, .int .i64 lo, .int .i64 hi, .int .i64 1, .int .i64 k2] VA)) G 58 (recC [.string ad, .string va, .int .i64 st, .int .i64 sz] B [.string tg, .int .i64 lo, .int .i64 hi, .int .i64 1, .int .i64 k2] VA) from KA.out.row_ _)
  replace KB := Lib.hid (show Blk (w6.setRow G (recC [.string ad, .string va, .int .i64 st, .int .i64 sz] B [.string tg, .int .i64 lo, .int .i64 hi, .int .i64 1, .int .i64 k2] VA)) (G + 1) 62 _ from KB.out.rowfar (by omega) _)
  replace KC := Lib.hid (show Blk (w6.setRow G (recC [.string ad, .string va, .int .i64 st, .int .i64 sz] B [.string tg, .int .i64 lo, .int .i64 hi, .int .i64 1, .int .i64 k2] VA)) (G + 1 + 1) 64 _ from KC.out.rowfar (by omega) _)
  replace KD := Lib.hid (show Blk (w6.setRow G (recC [.string ad, .string va, .int .i64 st, .int .i64 sz] B [.string tg, .int .i64 lo, .int .i64 hi, .int .i64 1, .int .i64 k2] VA)) (G + 1 + 1 + 1) 66 _ from KD.out.rowfar (by omega) _)
  replace KK := Lib.hid (show Blk (w6.setRow G (recC [.string ad, .string va, .int .i64 st, .int .i64 sz] B [.string tg, .int .i64 lo, .int .i64 hi, .int .i64 1, .int .i64 k2] VA)) gk 24 #[.int .i64 1, .int .i64 k2, .string k3, .int .i64 k4, .int .i64 k5] from KK.out.rowfar (by have := NA.out; omega) _)
  replace B0 := Lib.hid (show Below w.heap.size w (w6.setRow G (recC [.string ad, .string va, .int .i64 st, .int .i64 sz] B [.string tg, .int .i64 lo, .int .i64 hi, .int .i64 1, .int .i64 k2] VA)) from below_setRow B0.out (show w.heap.size ≤ G by have := HG.out; omega) _)
  generalize hw : (w6.setRow G (recC [.string ad, .string va, .int .i64 st, .int .i64 sz] B [.string tg, .int .i64 lo, .int .i64 hi, .int .i64 1, .int .i64 k2] VA)) = w7 at KA KB KC KD KK B0 ⊢
  clear hw HkA Z1
  go_cut [62] from 53 to 62 (fun u wx => u = .bool false ∧ Hid (Below w7.heap.size w7 wx))
  case first =>
    obtain ⟨z0, z1, z2, z3, z4⟩ := five KK.out
    obtain ⟨xa0, xa1, xa2, xa3, xc0, xc1, xc2, xc3, xc4⟩ := stamp_cells HBA.out KA.out
    by_cases hc : countsB (1, k2, k3, k4, k5) lo hi = true
    · have CT1 := Lib.hid (fun X => CT.out lo hi X)
      simp only [hc] at CT1
      go_wp2_with fail
      refine (CT1.out _).mono ?_
      rintro e wa ⟨rfl, hb⟩
      have HBx := Lib.hid hb
      have KAz := Lib.hid (KA.out.below hb KA.out.lt)
      clear hb z0 z1 z2 z3 z4 xa0 xa1 xa2 xa3 xc0 xc1 xc2 xc3 xc4
      go_wp2_with (with_reducible refine wpList_load_want (by kernel_rfl) 58 _ rfl G rfl 58 (recC [.string ad, .string va, .int .i64 st, .int .i64 sz] B [.string tg, .int .i64 lo, .int .i64 hi, .int .i64 1, .int .i64 k2] VA) _ KAz.out Tryd.underlying58 rfl JA.out ?_)
      refine (F1.out hc _ (HP.out.mono (B0.out.trans (HBx.out.mono B0.out.size))) (HLA.out.below (B0.out.trans (HBx.out.mono B0.out.size)))).mono ?_
      rintro e wb ⟨rfl, hb2⟩
      have BX := Lib.hid (HBx.out.trans (hb2.mono HBx.out.size))
      clear hb2
      go_wp2
      go_meet
      exact ⟨rfl, BX⟩
    · have hc2 : countsB (1, k2, k3, k4, k5) lo hi = false := by simpa using hc
      have CT1 := Lib.hid (fun X => CT.out lo hi X)
      simp only [hc2] at CT1
      go_wp2_with fail
      refine (CT1.out _).mono ?_
      rintro e wa ⟨rfl, hb⟩
      have BX := Lib.hid hb
      clear hb z0 z1 z2 z3 z4 xa0 xa1 xa2 xa3 xc0 xc1 xc2 xc3 xc4
      go_wp2
      go_meet
      exact ⟨rfl, BX⟩
  obtain ⟨rfl, BX⟩ := hcut
  replace KA := Lib.hid (KA.out.below BX.out KA.out.lt)
  replace KB := Lib.hid (KB.out.below BX.out KB.out.lt)
  replace KC := Lib.hid (KC.out.below BX.out KC.out.lt)
  replace KD := Lib.hid (KD.out.below BX.out KD.out.lt)
  replace KK := Lib.hid (KK.out.below BX.out KK.out.lt)
  replace B0 := Lib.hid (B0.out.trans (BX.out.mono B0.out.size))
  clear BX F1
  obtain ⟨w8, hwn⟩ : ∃ v, v = wc := ⟨_, rfl⟩
  rw [← hwn] at KA KB KC KD KK B0 ⊢
  clear hwn
  obtain ⟨z0, z1, z2, z3, z4⟩ := five KK.out
  go_upto_region 8 with (fail)
  clear z0 z1 z2 z3 z4
  go_cut [] from 66 to 71 (fun wx => ∃ a1 c1 a2 c2, Hid (Blk wx (G + 1) 62 (recC [.int .i64 nu] B2 [.int .i64 lo2, .int .i64 hi2, .slice a1 pl.length c1, .slice a2 rl.length c2, .int .i64 k2] VB)) ∧ Hid (Blk wx (G + 1 + 1) 64 (leaseC s3 e3 u3 k2 VC)) ∧ Hid (Blk wx G 58 (recC [.string ad, .string va, .int .i64 st, .int .i64 sz] B [.string tg, .int .i64 lo, .int .i64 hi, .int .i64 1, .int .i64 k2] VA)) ∧ Hid (Blk wx (G + 1 + 1 + 1) 66 (recC [.int .i64 si, .int .i64 sz4] B4 [.int .i64 lo4, .int .i64 hi4, .int .i64 se4] S4)) ∧ Hid (Blk wx gk 24 #[.int .i64 1, .int .i64 k2, .string k3, .int .i64 k4, .int .i64 k5]) ∧ Hid (EpM wx a1 pl a2 rl) ∧ Hid (Below w.heap.size w wx))
  case first =>
    refine wp_region_held_drew (S := fun W => Blk W gk 24 #[.int .i64 1, .int .i64 k2, .string k3, .int .i64 k4, .int .i64 k5]) (by kernel_rfl) KK.out.drew (fun hHeld => ?_)
    replace KA := Lib.hid KA.out.drew
    replace KB := Lib.hid KB.out.drew
    replace KC := Lib.hid KC.out.drew
    replace KD := Lib.hid KD.out.drew
    replace KK := Lib.hid KK.out.drew
    replace B0 := Lib.hid B0.out.drew
    generalize w8.drew = w9 at KA KB KC KD KK B0 hHeld ⊢
    have KI := Lib.hid (show (Tryd.prog.info? 24).map (·.size) = some (#[.int .i64 1, .int .i64 k2, .string k3, .int .i64 k4, .int .i64 k5] : Array Value).size from by kernel_rfl)
    refine wpAnyH_take (i := 0) (v := .agg #[.int .i64 1, .int .i64 k2, .string k3, .int .i64 k4, .int .i64 k5]) rfl (by kernel_rfl) (by kernel_rfl) (by kernel_rfl) (fun _ _ _ h => h) (Or.inl ⟨by rfl, fun W hW => exec_load_row 24 _ rfl gk rfl 24 #[.int .i64 1, .int .i64 k2, .string k3, .int .i64 k4, .int .i64 k5] (0, 0) _ hW Tryd.underlying24 rfl KI.out⟩) (by assumption) ?_
    (try simp only [Act.put, List.getElem_toArray, List.getElem_cons_succ, List.getElem_cons_zero, List.setIfInBounds_toArray, List.set_cons_zero, List.set_cons_succ])
    refine wpAnyH_take (i := 3) (v := .agg #[.int .i64 1, .int .i64 k2, .string k3, .int .i64 k4, .int .i64 k5]) rfl (by kernel_rfl) (by kernel_rfl) (by kernel_rfl) (fun _ _ _ h => h) (Or.inl ⟨by rfl, fun W hW => exec_load_row 24 _ rfl gk rfl 24 #[.int .i64 1, .int .i64 k2, .string k3, .int .i64 k4, .int .i64 k5] (0, 0) _ hW Tryd.underlying24 rfl KI.out⟩) (by assumption) ?_
    (try simp only [Act.put, List.getElem_toArray, List.getElem_cons_succ, List.getElem_cons_zero, List.setIfInBounds_toArray, List.set_cons_zero, List.set_cons_succ])
    refine wpAnyH_ready (rs := [1, 4]) (by kernel_rfl) (by simp) (AllReadyH.cons rfl (fun K hK => ?_) (AllReadyH.cons rfl (fun K hK => ?_) AllReadyH.nil))
    · rw [if_pos (by rfl)]
      refine wp_load_row 62 _ rfl (G + 1) rfl 62 (recC [.int .i64 nu] B2 [.int .i64 lo2, .int .i64 hi2, .slice pa pl.length pc, .slice ra rl.length rc, .int .i64 se2] S2) _ KB.out Tryd.underlying62 rfl IB.out ?_
      refine hK _ _ KK.out (fun hHeld => ?_)
      clear hK K
      (try simp only [Act.put, List.getElem_toArray, List.getElem_cons_succ, List.getElem_cons_zero, List.setIfInBounds_toArray, List.set_cons_zero, List.set_cons_succ])
      refine wpAnyH_ready (rs := [2, 4]) (by kernel_rfl) (by simp) (AllReadyH.cons rfl (fun K hK => ?_) (AllReadyH.cons rfl (fun K hK => ?_) AllReadyH.nil))
      · go_simp
        refine (Z3.out _ (HM.out.mono B0.out) (HLA.out.below B0.out)).mono ?_
        rintro e9 w9b ⟨a1, c1, a2, c2, rfl, hep, hfr, hb⟩
        have EP1 := Lib.hid hep
        have FR1 := Lib.hid (show FrE a1 a2 w.heap.size from ⟨fun p hp => Nat.le_trans B0.out.size (hfr.1 p hp), fun p hp => Nat.le_trans B0.out.size (hfr.2 p hp)⟩)
        have FR2 := Lib.hid hfr
        clear hep hfr
        have LX := Lib.hid (show G + 1 + 1 + 1 < _ from KD.out.lt)
        replace KA := Lib.hid (KA.out.below hb KA.out.lt)
        replace KB := Lib.hid (KB.out.below hb KB.out.lt)
        replace KC := Lib.hid (KC.out.below hb KC.out.lt)
        replace KD := Lib.hid (KD.out.below hb KD.out.lt)
        replace KK := Lib.hid (KK.out.below hb KK.out.lt)
        replace B0 := Lib.hid (B0.out.trans (hb.mono B0.out.size))
        clear hb
        go_wp2_with fail
        refine hK _ _ KK.out (fun hHeld => ?_)
        clear hK K
        (try simp only [Act.put, List.getElem_toArray, List.getElem_cons_succ, List.getElem_cons_zero, List.setIfInBounds_toArray, List.set_cons_zero, List.set_cons_succ])
        refine wpAnyH_ready (rs := [4]) (by kernel_rfl) (by simp) (AllReadyH.cons rfl (fun K hK => ?_) AllReadyH.nil)
        rw [if_pos (by rfl)]
        refine wp_load_row 64 _ rfl (G + 1 + 1) rfl 64 (leaseC s3 e3 u3 r3 S3) _ KC.out Tryd.underlying64 rfl IC.out ?_
        refine hK _ _ KK.out (fun hHeld => ?_)
        clear hK K
        (try simp only [Act.put, List.getElem_toArray, List.getElem_cons_succ, List.getElem_cons_zero, List.setIfInBounds_toArray, List.set_cons_zero, List.set_cons_succ])
        refine wpAnyH_ready (rs := [5]) (by kernel_rfl) (by simp) (AllReadyH.cons rfl (fun K hK => ?_) AllReadyH.nil)
        go_simp
        refine (Z5.out _ (HLA.out.below B0.out)).mono ?_
        rintro e9 wv ⟨rfl, hb⟩
        replace EP1 := Lib.hid (EP1.out.mono hb)
        replace KA := Lib.hid (KA.out.below hb KA.out.lt)
        replace KB := Lib.hid (KB.out.below hb KB.out.lt)
        replace KC := Lib.hid (KC.out.below hb KC.out.lt)
        replace KD := Lib.hid (KD.out.below hb KD.out.lt)
        replace KK := Lib.hid (KK.out.below hb KK.out.lt)
        replace B0 := Lib.hid (B0.out.trans (hb.mono B0.out.size))
        clear hb
        go_wp2_with fail
        refine hK _ _ KK.out (fun hHeld => ?_)
        clear hK K
        (try simp only [Act.put, List.getElem_toArray, List.getElem_cons_succ, List.getElem_cons_zero, List.setIfInBounds_toArray, List.set_cons_zero, List.set_cons_succ])
        refine wpAnyH_ready (rs := [6]) (by kernel_rfl) (by simp) (AllReadyH.cons rfl (fun K hK => ?_) AllReadyH.nil)
        rw [if_pos (by rfl)]
        have HkB := (show Hs.Blk wv (G + 1) 62 (recC [.int .i64 nu] B2 [.int .i64 lo2, .int .i64 hi2, .slice pa pl.length pc, .slice ra rl.length rc, .int .i64 se2] S2) from KB.out)
        refine wp_store_row 62 _ _ rfl (G + 1) 62 (recC [.int .i64 nu] B2 [.int .i64 lo2, .int .i64 hi2, .slice pa pl.length pc, .slice ra rl.length rc, .int .i64 se2] S2) (recC [.int .i64 nu] B2 [.int .i64 lo2, .int .i64 hi2, .slice a1 pl.length c1, .slice a2 rl.length c2, .int .i64 k2] VB) rfl rfl HkB (JB.out a1 a2 c1 c2) (JBs.out a1 a2 c1 c2) (JBo.out a1 a2 c1 c2) rfl ?_
        clear HkB
        replace KB := Lib.hid (show Blk (wv.setRow (G + 1) (recC [.int .i64 nu] B2 [.int .i64 lo2, .int .i64 hi2, .slice a1 pl.length c1, .slice a2 rl.length c2, .int .i64 k2] VB)) (G + 1) 62 (recC [.int .i64 nu] B2 [.int .i64 lo2, .int .i64 hi2, .slice a1 pl.length c1, .slice a2 rl.length c2, .int .i64 k2] VB) from KB.out.row_ _)
        replace KA := Lib.hid (show Blk (wv.setRow (G + 1) (recC [.int .i64 nu] B2 [.int .i64 lo2, .int .i64 hi2, .slice a1 pl.length c1, .slice a2 rl.length c2, .int .i64 k2] VB)) (G) 58 _ from KA.out.rowfar (by omega) _)
        replace KC := Lib.hid (show Blk (wv.setRow (G + 1) (recC [.int .i64 nu] B2 [.int .i64 lo2, .int .i64 hi2, .slice a1 pl.length c1, .slice a2 rl.length c2, .int .i64 k2] VB)) (G + 1 + 1) 64 _ from KC.out.rowfar (by omega) _)
        replace KD := Lib.hid (show Blk (wv.setRow (G + 1) (recC [.int .i64 nu] B2 [.int .i64 lo2, .int .i64 hi2, .slice a1 pl.length c1, .slice a2 rl.length c2, .int .i64 k2] VB)) (G + 1 + 1 + 1) 66 _ from KD.out.rowfar (by omega) _)
        replace KK := Lib.hid (show Blk (wv.setRow (G + 1) (recC [.int .i64 nu] B2 [.int .i64 lo2, .int .i64 hi2, .slice a1 pl.length c1, .slice a2 rl.length c2, .int .i64 k2] VB)) gk 24 #[.int .i64 1, .int .i64 k2, .string k3, .int .i64 k4, .int .i64 k5] from KK.out.rowfar (by have := NB.out; omega) _)
        replace B0 := Lib.hid (show Below w.heap.size w (wv.setRow (G + 1) (recC [.int .i64 nu] B2 [.int .i64 lo2, .int .i64 hi2, .slice a1 pl.length c1, .slice a2 rl.length c2, .int .i64 k2] VB)) from below_setRow B0.out (show w.heap.size ≤ G + 1 by have := HG.out; omega) _)
        replace EP1 := Lib.hid (show EpM (wv.setRow (G + 1) (recC [.int .i64 nu] B2 [.int .i64 lo2, .int .i64 hi2, .slice a1 pl.length c1, .slice a2 rl.length c2, .int .i64 k2] VB)) a1 pl a2 rl from EP1.out.rowfar (fun p hp => by have := FR2.out.1 p hp; have := LX.out; omega) (fun p hp => by have := FR2.out.2 p hp; have := LX.out; omega) _)
        refine hK _ _ KK.out (fun hHeld => ?_)
        clear hK K
        (try simp only [Act.put, List.getElem_toArray, List.getElem_cons_succ, List.getElem_cons_zero, List.setIfInBounds_toArray, List.set_cons_zero, List.set_cons_succ])
        generalize hw : (wv.setRow (G + 1) (recC [.int .i64 nu] B2 [.int .i64 lo2, .int .i64 hi2, .slice a1 pl.length c1, .slice a2 rl.length c2, .int .i64 k2] VB)) = wv1 at KA KB KC KD KK B0 EP1 hHeld ⊢
        clear hw
        refine wpAnyH_ready (rs := [7]) (by kernel_rfl) (by simp) (AllReadyH.cons rfl (fun K hK => ?_) AllReadyH.nil)
        rw [if_pos (by rfl)]
        have HkC := (show Hs.Blk wv1 (G + 1 + 1) 64 (leaseC s3 e3 u3 r3 S3) from KC.out)
        refine wp_store_row 64 _ _ rfl (G + 1 + 1) 64 (leaseC s3 e3 u3 r3 S3) (leaseC s3 e3 u3 k2 VC) rfl rfl HkC JC.out JCs.out JCo.out rfl ?_
        clear HkC
        replace KC := Lib.hid (show Blk (wv1.setRow (G + 1 + 1) (leaseC s3 e3 u3 k2 VC)) (G + 1 + 1) 64 (leaseC s3 e3 u3 k2 VC) from KC.out.row_ _)
        replace KA := Lib.hid (show Blk (wv1.setRow (G + 1 + 1) (leaseC s3 e3 u3 k2 VC)) (G) 58 _ from KA.out.rowfar (by omega) _)
        replace KB := Lib.hid (show Blk (wv1.setRow (G + 1 + 1) (leaseC s3 e3 u3 k2 VC)) (G + 1) 62 _ from KB.out.rowfar (by omega) _)
        replace KD := Lib.hid (show Blk (wv1.setRow (G + 1 + 1) (leaseC s3 e3 u3 k2 VC)) (G + 1 + 1 + 1) 66 _ from KD.out.rowfar (by omega) _)
        replace KK := Lib.hid (show Blk (wv1.setRow (G + 1 + 1) (leaseC s3 e3 u3 k2 VC)) gk 24 #[.int .i64 1, .int .i64 k2, .string k3, .int .i64 k4, .int .i64 k5] from KK.out.rowfar (by have := NC.out; omega) _)
        replace B0 := Lib.hid (show Below w.heap.size w (wv1.setRow (G + 1 + 1) (leaseC s3 e3 u3 k2 VC)) from below_setRow B0.out (show w.heap.size ≤ G + 1 + 1 by have := HG.out; omega) _)
        replace EP1 := Lib.hid (show EpM (wv1.setRow (G + 1 + 1) (leaseC s3 e3 u3 k2 VC)) a1 pl a2 rl from EP1.out.rowfar (fun p hp => by have := FR2.out.1 p hp; have := LX.out; omega) (fun p hp => by have := FR2.out.2 p hp; have := LX.out; omega) _)
        refine hK _ _ KK.out (fun hHeld => ?_)
        clear hK K
        (try simp only [Act.put, List.getElem_toArray, List.getElem_cons_succ, List.getElem_cons_zero, List.setIfInBounds_toArray, List.set_cons_zero, List.set_cons_succ])
        generalize hw : (wv1.setRow (G + 1 + 1) (leaseC s3 e3 u3 k2 VC)) = wv2 at KA KB KC KD KK B0 EP1 hHeld ⊢
        clear hw
        refine wpAnyH_done (by kernel_rfl) ?_ _
        go_wp2_with fail
        go_meet
        exact ⟨a1, c1, a2, c2, KB, KC, KA, KD, KK, EP1, B0⟩
      · rw [if_pos (by rfl)]
        refine wp_load_row 64 _ rfl (G + 1 + 1) rfl 64 (leaseC s3 e3 u3 r3 S3) _ KC.out Tryd.underlying64 rfl IC.out ?_
        refine hK _ _ KK.out (fun hHeld => ?_)
        clear hK K
        (try simp only [Act.put, List.getElem_toArray, List.getElem_cons_succ, List.getElem_cons_zero, List.setIfInBounds_toArray, List.set_cons_zero, List.set_cons_succ])
        refine wpAnyH_ready (rs := [2]) (by kernel_rfl) (by simp) (AllReadyH.cons rfl (fun K hK => ?_) AllReadyH.nil)
        go_simp
        refine (Z3.out _ (HM.out.mono B0.out) (HLA.out.below B0.out)).mono ?_
        rintro e9 w9b ⟨a1, c1, a2, c2, rfl, hep, hfr, hb⟩
        have EP1 := Lib.hid hep
        have FR1 := Lib.hid (show FrE a1 a2 w.heap.size from ⟨fun p hp => Nat.le_trans B0.out.size (hfr.1 p hp), fun p hp => Nat.le_trans B0.out.size (hfr.2 p hp)⟩)
        have FR2 := Lib.hid hfr
        clear hep hfr
        have LX := Lib.hid (show G + 1 + 1 + 1 < _ from KD.out.lt)
        replace KA := Lib.hid (KA.out.below hb KA.out.lt)
        replace KB := Lib.hid (KB.out.below hb KB.out.lt)
        replace KC := Lib.hid (KC.out.below hb KC.out.lt)
        replace KD := Lib.hid (KD.out.below hb KD.out.lt)
        replace KK := Lib.hid (KK.out.below hb KK.out.lt)
        replace B0 := Lib.hid (B0.out.trans (hb.mono B0.out.size))
        clear hb
        go_wp2_with fail
        refine hK _ _ KK.out (fun hHeld => ?_)
        clear hK K
        (try simp only [Act.put, List.getElem_toArray, List.getElem_cons_succ, List.getElem_cons_zero, List.setIfInBounds_toArray, List.set_cons_zero, List.set_cons_succ])
        refine wpAnyH_ready (rs := [5]) (by kernel_rfl) (by simp) (AllReadyH.cons rfl (fun K hK => ?_) AllReadyH.nil)
        go_simp
        refine (Z5.out _ (HLA.out.below B0.out)).mono ?_
        rintro e9 wv ⟨rfl, hb⟩
        replace EP1 := Lib.hid (EP1.out.mono hb)
        replace KA := Lib.hid (KA.out.below hb KA.out.lt)
        replace KB := Lib.hid (KB.out.below hb KB.out.lt)
        replace KC := Lib.hid (KC.out.below hb KC.out.lt)
        replace KD := Lib.hid (KD.out.below hb KD.out.lt)
        replace KK := Lib.hid (KK.out.below hb KK.out.lt)
        replace B0 := Lib.hid (B0.out.trans (hb.mono B0.out.size))
        clear hb
        go_wp2_with fail
        refine hK _ _ KK.out (fun hHeld => ?_)
        clear hK K
        (try simp only [Act.put, List.getElem_toArray, List.getElem_cons_succ, List.getElem_cons_zero, List.setIfInBounds_toArray, List.set_cons_zero, List.set_cons_succ])
        refine wpAnyH_ready (rs := [6]) (by kernel_rfl) (by simp) (AllReadyH.cons rfl (fun K hK => ?_) AllReadyH.nil)
        rw [if_pos (by rfl)]
        have HkB := (show Hs.Blk wv (G + 1) 62 (recC [.int .i64 nu] B2 [.int .i64 lo2, .int .i64 hi2, .slice pa pl.length pc, .slice ra rl.length rc, .int .i64 se2] S2) from KB.out)
        refine wp_store_row 62 _ _ rfl (G + 1) 62 (recC [.int .i64 nu] B2 [.int .i64 lo2, .int .i64 hi2, .slice pa pl.length pc, .slice ra rl.length rc, .int .i64 se2] S2) (recC [.int .i64 nu] B2 [.int .i64 lo2, .int .i64 hi2, .slice a1 pl.length c1, .slice a2 rl.length c2, .int .i64 k2] VB) rfl rfl HkB (JB.out a1 a2 c1 c2) (JBs.out a1 a2 c1 c2) (JBo.out a1 a2 c1 c2) rfl ?_
        clear HkB
        replace KB := Lib.hid (show Blk (wv.setRow (G + 1) (recC [.int .i64 nu] B2 [.int .i64 lo2, .int .i64 hi2, .slice a1 pl.length c1, .slice a2 rl.length c2, .int .i64 k2] VB)) (G + 1) 62 (recC [.int .i64 nu] B2 [.int .i64 lo2, .int .i64 hi2, .slice a1 pl.length c1, .slice a2 rl.length c2, .int .i64 k2] VB) from KB.out.row_ _)
        replace KA := Lib.hid (show Blk (wv.setRow (G + 1) (recC [.int .i64 nu] B2 [.int .i64 lo2, .int .i64 hi2, .slice a1 pl.length c1, .slice a2 rl.length c2, .int .i64 k2] VB)) (G) 58 _ from KA.out.rowfar (by omega) _)
        replace KC := Lib.hid (show Blk (wv.setRow (G + 1) (recC [.int .i64 nu] B2 [.int .i64 lo2, .int .i64 hi2, .slice a1 pl.length c1, .slice a2 rl.length c2, .int .i64 k2] VB)) (G + 1 + 1) 64 _ from KC.out.rowfar (by omega) _)
        replace KD := Lib.hid (show Blk (wv.setRow (G + 1) (recC [.int .i64 nu] B2 [.int .i64 lo2, .int .i64 hi2, .slice a1 pl.length c1, .slice a2 rl.length c2, .int .i64 k2] VB)) (G + 1 + 1 + 1) 66 _ from KD.out.rowfar (by omega) _)
        replace KK := Lib.hid (show Blk (wv.setRow (G + 1) (recC [.int .i64 nu] B2 [.int .i64 lo2, .int .i64 hi2, .slice a1 pl.length c1, .slice a2 rl.length c2, .int .i64 k2] VB)) gk 24 #[.int .i64 1, .int .i64 k2, .string k3, .int .i64 k4, .int .i64 k5] from KK.out.rowfar (by have := NB.out; omega) _)
        replace B0 := Lib.hid (show Below w.heap.size w (wv.setRow (G + 1) (recC [.int .i64 nu] B2 [.int .i64 lo2, .int .i64 hi2, .slice a1 pl.length c1, .slice a2 rl.length c2, .int .i64 k2] VB)) from below_setRow B0.out (show w.heap.size ≤ G + 1 by have := HG.out; omega) _)
        replace EP1 := Lib.hid (show EpM (wv.setRow (G + 1) (recC [.int .i64 nu] B2 [.int .i64 lo2, .int .i64 hi2, .slice a1 pl.length c1, .slice a2 rl.length c2, .int .i64 k2] VB)) a1 pl a2 rl from EP1.out.rowfar (fun p hp => by have := FR2.out.1 p hp; have := LX.out; omega) (fun p hp => by have := FR2.out.2 p hp; have := LX.out; omega) _)
        refine hK _ _ KK.out (fun hHeld => ?_)
        clear hK K
        (try simp only [Act.put, List.getElem_toArray, List.getElem_cons_succ, List.getElem_cons_zero, List.setIfInBounds_toArray, List.set_cons_zero, List.set_cons_succ])
        generalize hw : (wv.setRow (G + 1) (recC [.int .i64 nu] B2 [.int .i64 lo2, .int .i64 hi2, .slice a1 pl.length c1, .slice a2 rl.length c2, .int .i64 k2] VB)) = wv1 at KA KB KC KD KK B0 EP1 hHeld ⊢
        clear hw
        refine wpAnyH_ready (rs := [7]) (by kernel_rfl) (by simp) (AllReadyH.cons rfl (fun K hK => ?_) AllReadyH.nil)
        rw [if_pos (by rfl)]
        have HkC := (show Hs.Blk wv1 (G + 1 + 1) 64 (leaseC s3 e3 u3 r3 S3) from KC.out)
        refine wp_store_row 64 _ _ rfl (G + 1 + 1) 64 (leaseC s3 e3 u3 r3 S3) (leaseC s3 e3 u3 k2 VC) rfl rfl HkC JC.out JCs.out JCo.out rfl ?_
        clear HkC
        replace KC := Lib.hid (show Blk (wv1.setRow (G + 1 + 1) (leaseC s3 e3 u3 k2 VC)) (G + 1 + 1) 64 (leaseC s3 e3 u3 k2 VC) from KC.out.row_ _)
        replace KA := Lib.hid (show Blk (wv1.setRow (G + 1 + 1) (leaseC s3 e3 u3 k2 VC)) (G) 58 _ from KA.out.rowfar (by omega) _)
        replace KB := Lib.hid (show Blk (wv1.setRow (G + 1 + 1) (leaseC s3 e3 u3 k2 VC)) (G + 1) 62 _ from KB.out.rowfar (by omega) _)
        replace KD := Lib.hid (show Blk (wv1.setRow (G + 1 + 1) (leaseC s3 e3 u3 k2 VC)) (G + 1 + 1 + 1) 66 _ from KD.out.rowfar (by omega) _)
        replace KK := Lib.hid (show Blk (wv1.setRow (G + 1 + 1) (leaseC s3 e3 u3 k2 VC)) gk 24 #[.int .i64 1, .int .i64 k2, .string k3, .int .i64 k4, .int .i64 k5] from KK.out.rowfar (by have := NC.out; omega) _)
        replace B0 := Lib.hid (show Below w.heap.size w (wv1.setRow (G + 1 + 1) (leaseC s3 e3 u3 k2 VC)) from below_setRow B0.out (show w.heap.size ≤ G + 1 + 1 by have := HG.out; omega) _)
        replace EP1 := Lib.hid (show EpM (wv1.setRow (G + 1 + 1) (leaseC s3 e3 u3 k2 VC)) a1 pl a2 rl from EP1.out.rowfar (fun p hp => by have := FR2.out.1 p hp; have := LX.out; omega) (fun p hp => by have := FR2.out.2 p hp; have := LX.out; omega) _)
        refine hK _ _ KK.out (fun hHeld => ?_)
        clear hK K
        (try simp only [Act.put, List.getElem_toArray, List.getElem_cons_succ, List.getElem_cons_zero, List.setIfInBounds_toArray, List.set_cons_zero, List.set_cons_succ])
        generalize hw : (wv1.setRow (G + 1 + 1) (leaseC s3 e3 u3 k2 VC)) = wv2 at KA KB KC KD KK B0 EP1 hHeld ⊢
        clear hw
        refine wpAnyH_done (by kernel_rfl) ?_ _
        go_wp2_with fail
        go_meet
        exact ⟨a1, c1, a2, c2, KB, KC, KA, KD, KK, EP1, B0⟩
    · rw [if_pos (by rfl)]
      refine wp_load_row 64 _ rfl (G + 1 + 1) rfl 64 (leaseC s3 e3 u3 r3 S3) _ KC.out Tryd.underlying64 rfl IC.out ?_
      refine hK _ _ KK.out (fun hHeld => ?_)
      clear hK K
      (try simp only [Act.put, List.getElem_toArray, List.getElem_cons_succ, List.getElem_cons_zero, List.setIfInBounds_toArray, List.set_cons_zero, List.set_cons_succ])
      refine wpAnyH_ready (rs := [1]) (by kernel_rfl) (by simp) (AllReadyH.cons rfl (fun K hK => ?_) AllReadyH.nil)
      rw [if_pos (by rfl)]
      refine wp_load_row 62 _ rfl (G + 1) rfl 62 (recC [.int .i64 nu] B2 [.int .i64 lo2, .int .i64 hi2, .slice pa pl.length pc, .slice ra rl.length rc, .int .i64 se2] S2) _ KB.out Tryd.underlying62 rfl IB.out ?_
      refine hK _ _ KK.out (fun hHeld => ?_)
      clear hK K
      (try simp only [Act.put, List.getElem_toArray, List.getElem_cons_succ, List.getElem_cons_zero, List.setIfInBounds_toArray, List.set_cons_zero, List.set_cons_succ])
      refine wpAnyH_ready (rs := [2]) (by kernel_rfl) (by simp) (AllReadyH.cons rfl (fun K hK => ?_) AllReadyH.nil)
      go_simp
      refine (Z3.out _ (HM.out.mono B0.out) (HLA.out.below B0.out)).mono ?_
      rintro e9 w9b ⟨a1, c1, a2, c2, rfl, hep, hfr, hb⟩
      have EP1 := Lib.hid hep
      have FR1 := Lib.hid (show FrE a1 a2 w.heap.size from ⟨fun p hp => Nat.le_trans B0.out.size (hfr.1 p hp), fun p hp => Nat.le_trans B0.out.size (hfr.2 p hp)⟩)
      have FR2 := Lib.hid hfr
      clear hep hfr
      have LX := Lib.hid (show G + 1 + 1 + 1 < _ from KD.out.lt)
      replace KA := Lib.hid (KA.out.below hb KA.out.lt)
      replace KB := Lib.hid (KB.out.below hb KB.out.lt)
      replace KC := Lib.hid (KC.out.below hb KC.out.lt)
      replace KD := Lib.hid (KD.out.below hb KD.out.lt)
      replace KK := Lib.hid (KK.out.below hb KK.out.lt)
      replace B0 := Lib.hid (B0.out.trans (hb.mono B0.out.size))
      clear hb
      go_wp2_with fail
      refine hK _ _ KK.out (fun hHeld => ?_)
      clear hK K
      (try simp only [Act.put, List.getElem_toArray, List.getElem_cons_succ, List.getElem_cons_zero, List.setIfInBounds_toArray, List.set_cons_zero, List.set_cons_succ])
      refine wpAnyH_ready (rs := [5]) (by kernel_rfl) (by simp) (AllReadyH.cons rfl (fun K hK => ?_) AllReadyH.nil)
      go_simp
      refine (Z5.out _ (HLA.out.below B0.out)).mono ?_
      rintro e9 wv ⟨rfl, hb⟩
      replace EP1 := Lib.hid (EP1.out.mono hb)
      replace KA := Lib.hid (KA.out.below hb KA.out.lt)
      replace KB := Lib.hid (KB.out.below hb KB.out.lt)
      replace KC := Lib.hid (KC.out.below hb KC.out.lt)
      replace KD := Lib.hid (KD.out.below hb KD.out.lt)
      replace KK := Lib.hid (KK.out.below hb KK.out.lt)
      replace B0 := Lib.hid (B0.out.trans (hb.mono B0.out.size))
      clear hb
      go_wp2_with fail
      refine hK _ _ KK.out (fun hHeld => ?_)
      clear hK K
      (try simp only [Act.put, List.getElem_toArray, List.getElem_cons_succ, List.getElem_cons_zero, List.setIfInBounds_toArray, List.set_cons_zero, List.set_cons_succ])
      refine wpAnyH_ready (rs := [6]) (by kernel_rfl) (by simp) (AllReadyH.cons rfl (fun K hK => ?_) AllReadyH.nil)
      rw [if_pos (by rfl)]
      have HkB := (show Hs.Blk wv (G + 1) 62 (recC [.int .i64 nu] B2 [.int .i64 lo2, .int .i64 hi2, .slice pa pl.length pc, .slice ra rl.length rc, .int .i64 se2] S2) from KB.out)
      refine wp_store_row 62 _ _ rfl (G + 1) 62 (recC [.int .i64 nu] B2 [.int .i64 lo2, .int .i64 hi2, .slice pa pl.length pc, .slice ra rl.length rc, .int .i64 se2] S2) (recC [.int .i64 nu] B2 [.int .i64 lo2, .int .i64 hi2, .slice a1 pl.length c1, .slice a2 rl.length c2, .int .i64 k2] VB) rfl rfl HkB (JB.out a1 a2 c1 c2) (JBs.out a1 a2 c1 c2) (JBo.out a1 a2 c1 c2) rfl ?_
      clear HkB
      replace KB := Lib.hid (show Blk (wv.setRow (G + 1) (recC [.int .i64 nu] B2 [.int .i64 lo2, .int .i64 hi2, .slice a1 pl.length c1, .slice a2 rl.length c2, .int .i64 k2] VB)) (G + 1) 62 (recC [.int .i64 nu] B2 [.int .i64 lo2, .int .i64 hi2, .slice a1 pl.length c1, .slice a2 rl.length c2, .int .i64 k2] VB) from KB.out.row_ _)
      replace KA := Lib.hid (show Blk (wv.setRow (G + 1) (recC [.int .i64 nu] B2 [.int .i64 lo2, .int .i64 hi2, .slice a1 pl.length c1, .slice a2 rl.length c2, .int .i64 k2] VB)) (G) 58 _ from KA.out.rowfar (by omega) _)
      replace KC := Lib.hid (show Blk (wv.setRow (G + 1) (recC [.int .i64 nu] B2 [.int .i64 lo2, .int .i64 hi2, .slice a1 pl.length c1, .slice a2 rl.length c2, .int .i64 k2] VB)) (G + 1 + 1) 64 _ from KC.out.rowfar (by omega) _)
      replace KD := Lib.hid (show Blk (wv.setRow (G + 1) (recC [.int .i64 nu] B2 [.int .i64 lo2, .int .i64 hi2, .slice a1 pl.length c1, .slice a2 rl.length c2, .int .i64 k2] VB)) (G + 1 + 1 + 1) 66 _ from KD.out.rowfar (by omega) _)
      replace KK := Lib.hid (show Blk (wv.setRow (G + 1) (recC [.int .i64 nu] B2 [.int .i64 lo2, .int .i64 hi2, .slice a1 pl.length c1, .slice a2 rl.length c2, .int .i64 k2] VB)) gk 24 #[.int .i64 1, .int .i64 k2, .string k3, .int .i64 k4, .int .i64 k5] from KK.out.rowfar (by have := NB.out; omega) _)
      replace B0 := Lib.hid (show Below w.heap.size w (wv.setRow (G + 1) (recC [.int .i64 nu] B2 [.int .i64 lo2, .int .i64 hi2, .slice a1 pl.length c1, .slice a2 rl.length c2, .int .i64 k2] VB)) from below_setRow B0.out (show w.heap.size ≤ G + 1 by have := HG.out; omega) _)
      replace EP1 := Lib.hid (show EpM (wv.setRow (G + 1) (recC [.int .i64 nu] B2 [.int .i64 lo2, .int .i64 hi2, .slice a1 pl.length c1, .slice a2 rl.length c2, .int .i64 k2] VB)) a1 pl a2 rl from EP1.out.rowfar (fun p hp => by have := FR2.out.1 p hp; have := LX.out; omega) (fun p hp => by have := FR2.out.2 p hp; have := LX.out; omega) _)
      refine hK _ _ KK.out (fun hHeld => ?_)
      clear hK K
      (try simp only [Act.put, List.getElem_toArray, List.getElem_cons_succ, List.getElem_cons_zero, List.setIfInBounds_toArray, List.set_cons_zero, List.set_cons_succ])
      generalize hw : (wv.setRow (G + 1) (recC [.int .i64 nu] B2 [.int .i64 lo2, .int .i64 hi2, .slice a1 pl.length c1, .slice a2 rl.length c2, .int .i64 k2] VB)) = wv1 at KA KB KC KD KK B0 EP1 hHeld ⊢
      clear hw
      refine wpAnyH_ready (rs := [7]) (by kernel_rfl) (by simp) (AllReadyH.cons rfl (fun K hK => ?_) AllReadyH.nil)
      rw [if_pos (by rfl)]
      have HkC := (show Hs.Blk wv1 (G + 1 + 1) 64 (leaseC s3 e3 u3 r3 S3) from KC.out)
      refine wp_store_row 64 _ _ rfl (G + 1 + 1) 64 (leaseC s3 e3 u3 r3 S3) (leaseC s3 e3 u3 k2 VC) rfl rfl HkC JC.out JCs.out JCo.out rfl ?_
      clear HkC
      replace KC := Lib.hid (show Blk (wv1.setRow (G + 1 + 1) (leaseC s3 e3 u3 k2 VC)) (G + 1 + 1) 64 (leaseC s3 e3 u3 k2 VC) from KC.out.row_ _)
      replace KA := Lib.hid (show Blk (wv1.setRow (G + 1 + 1) (leaseC s3 e3 u3 k2 VC)) (G) 58 _ from KA.out.rowfar (by omega) _)
      replace KB := Lib.hid (show Blk (wv1.setRow (G + 1 + 1) (leaseC s3 e3 u3 k2 VC)) (G + 1) 62 _ from KB.out.rowfar (by omega) _)
      replace KD := Lib.hid (show Blk (wv1.setRow (G + 1 + 1) (leaseC s3 e3 u3 k2 VC)) (G + 1 + 1 + 1) 66 _ from KD.out.rowfar (by omega) _)
      replace KK := Lib.hid (show Blk (wv1.setRow (G + 1 + 1) (leaseC s3 e3 u3 k2 VC)) gk 24 #[.int .i64 1, .int .i64 k2, .string k3, .int .i64 k4, .int .i64 k5] from KK.out.rowfar (by have := NC.out; omega) _)
      replace B0 := Lib.hid (show Below w.heap.size w (wv1.setRow (G + 1 + 1) (leaseC s3 e3 u3 k2 VC)) from below_setRow B0.out (show w.heap.size ≤ G + 1 + 1 by have := HG.out; omega) _)
      replace EP1 := Lib.hid (show EpM (wv1.setRow (G + 1 + 1) (leaseC s3 e3 u3 k2 VC)) a1 pl a2 rl from EP1.out.rowfar (fun p hp => by have := FR2.out.1 p hp; have := LX.out; omega) (fun p hp => by have := FR2.out.2 p hp; have := LX.out; omega) _)
      refine hK _ _ KK.out (fun hHeld => ?_)
      clear hK K
      (try simp only [Act.put, List.getElem_toArray, List.getElem_cons_succ, List.getElem_cons_zero, List.setIfInBounds_toArray, List.set_cons_zero, List.set_cons_succ])
      generalize hw : (wv1.setRow (G + 1 + 1) (leaseC s3 e3 u3 k2 VC)) = wv2 at KA KB KC KD KK B0 EP1 hHeld ⊢
      clear hw
      refine wpAnyH_done (by kernel_rfl) ?_ _
      go_wp2_with fail
      go_meet
      exact ⟨a1, c1, a2, c2, KB, KC, KA, KD, KK, EP1, B0⟩
  clear KA KB KC KD KK B0
  obtain ⟨a1, c1, a2, c2, KB, KC, KA, KD, KK, EP1, B0⟩ := hcut
  obtain ⟨w10, hwn⟩ : ∃ v, v = wc := ⟨_, rfl⟩
  rw [← hwn] at KA KB KC KD KK EP1 B0 ⊢
  clear hwn
  have JB1 := Lib.hid (JB.out a1 a2 c1 c2)
  go_upto_region 9 with (fail)
  go_cut [81] from 72 to 81 (fun u wx => u = .bool false ∧ Hid (Below w10.heap.size w10 wx))
  case first =>
    obtain ⟨z0, z1, z2, z3, z4⟩ := five KK.out
    obtain ⟨xa0, xc0, xc1, xc2, xc3, xc4⟩ := epoch_cells HBB.out KB.out
    by_cases hc : countsB (1, k2, k3, k4, k5) lo2 hi2 = true
    · have CT1 := Lib.hid (fun X => CT.out lo2 hi2 X)
      simp only [hc] at CT1
      go_wp2_with fail
      refine (CT1.out _).mono ?_
      rintro e wa ⟨rfl, hb⟩
      have HBx := Lib.hid hb
      have KBz := Lib.hid (KB.out.below hb KB.out.lt)
      clear hb z0 z1 z2 z3 z4 xa0 xc0 xc1 xc2 xc3 xc4
      go_wp2_with (with_reducible refine wpList_load_want (by kernel_rfl) 62 _ rfl (G + 1) rfl 62 (recC [.int .i64 nu] B2 [.int .i64 lo2, .int .i64 hi2, .slice a1 pl.length c1, .slice a2 rl.length c2, .int .i64 k2] VB) _ KBz.out Tryd.underlying62 rfl JB1.out ?_)
      refine (F3.out (by simp) hc a1 c1 a2 c2 _ (HP.out.mono (B0.out.trans (HBx.out.mono B0.out.size))) (EP1.out.mono HBx.out) (HLA.out.below (B0.out.trans (HBx.out.mono B0.out.size)))).mono ?_
      rintro e wb ⟨rfl, hb2⟩
      have BX := Lib.hid (HBx.out.trans (hb2.mono HBx.out.size))
      clear hb2
      go_wp2
      go_meet
      exact ⟨rfl, BX⟩
    · have hc2 : countsB (1, k2, k3, k4, k5) lo2 hi2 = false := by simpa using hc
      have CT1 := Lib.hid (fun X => CT.out lo2 hi2 X)
      simp only [hc2] at CT1
      go_wp2_with fail
      refine (CT1.out _).mono ?_
      rintro e wa ⟨rfl, hb⟩
      have BX := Lib.hid hb
      clear hb z0 z1 z2 z3 z4 xa0 xc0 xc1 xc2 xc3 xc4
      go_wp2
      go_meet
      exact ⟨rfl, BX⟩
  obtain ⟨rfl, BX⟩ := hcut
  replace KA := Lib.hid (KA.out.below BX.out KA.out.lt)
  replace KC := Lib.hid (KC.out.below BX.out KC.out.lt)
  replace KD := Lib.hid (KD.out.below BX.out KD.out.lt)
  replace KK := Lib.hid (KK.out.below BX.out KK.out.lt)
  replace B0 := Lib.hid (B0.out.trans (BX.out.mono B0.out.size))
  clear BX F3 KB EP1 JB1
  obtain ⟨w11, hwn⟩ : ∃ v, v = wc := ⟨_, rfl⟩
  rw [← hwn] at KA KC KD KK B0 ⊢
  clear hwn
  go_upto_region 11 with (fail)
  go_cut [109] from 82 to 109 (fun u wx => u = .bool false ∧ Hid (Below w11.heap.size w11 wx))
  case first =>
    obtain ⟨z0, z1, z2, z3, z4⟩ := five KK.out
    obtain ⟨x0, x1, x2, x3⟩ := lease_cells KC.out
    by_cases g1 : 0 ≤ s3
    · have dg1 : decide (0 ≤ s3) = true := decide_eq_true g1
      by_cases g2 : s3 < 64
      · have dg2 : decide (s3 < 64) = true := decide_eq_true g2
        by_cases g3 : k4 < u3
        · have dg3 : decide (k4 < u3) = true := decide_eq_true g3
          by_cases g4 : u3 ≤ k5
          · have dg4 : decide (u3 ≤ k5) = true := decide_eq_true g4
            go_wp2_with (with_reducible refine wpList_load_want (by kernel_rfl) 64 _ rfl (G + 1 + 1) rfl 64 (leaseC s3 e3 u3 k2 VC) _ KC.out Tryd.underlying64 rfl JC.out ?_)
            refine (F5.out (by simp) g1 g2 g3 g4 _ (HP.out.mono B0.out) (HLA.out.below B0.out)).mono ?_
            rintro e wd ⟨rfl, hb⟩
            have BX := Lib.hid hb
            clear hb z0 z1 z2 z3 z4 x0 x1 x2 x3
            go_wp2
            go_meet
            exact ⟨rfl, BX⟩
          · have dg4 : decide (u3 ≤ k5) = false := decide_eq_false g4
            go_wp2
            go_meet
            exact ⟨rfl, Lib.hid (Below.refl _ _)⟩
        · have dg3 : decide (k4 < u3) = false := decide_eq_false g3
          go_wp2
          go_meet
          exact ⟨rfl, Lib.hid (Below.refl _ _)⟩
      · have dg2 : decide (s3 < 64) = false := decide_eq_false g2
        go_wp2
        go_meet
        exact ⟨rfl, Lib.hid (Below.refl _ _)⟩
    · have dg1 : decide (0 ≤ s3) = false := decide_eq_false g1
      go_wp2
      go_meet
      exact ⟨rfl, Lib.hid (Below.refl _ _)⟩
  obtain ⟨rfl, BX⟩ := hcut
  replace KA := Lib.hid (KA.out.below BX.out KA.out.lt)
  replace KD := Lib.hid (KD.out.below BX.out KD.out.lt)
  replace KK := Lib.hid (KK.out.below BX.out KK.out.lt)
  replace B0 := Lib.hid (B0.out.trans (BX.out.mono B0.out.size))
  clear BX KC
  obtain ⟨w12, hwn⟩ : ∃ v, v = wc := ⟨_, rfl⟩
  rw [← hwn] at KA KD KK B0 ⊢
  clear hwn
  clear F5 Z3 Z5 JB JBs JBo JC JCs JCo
  go_upto_region 13 with (fail)
  obtain ⟨z0, z1, z2, z3, z4⟩ := five KK.out
  obtain ⟨xa0, xa1, xc0, xc1, xc2⟩ := head_cells HBD.out KD.out
  have fx := fun q => KD.out.frozen q
  replace KD := Lib.hid (show Blk (w12.setCell ⟨G + 1 + 1 + 1, 0, none⟩ (.int .i64 (-999))) (G + 1 + 1 + 1) 66 (recC [.int .i64 (-999), .int .i64 sz4] B4 [.int .i64 lo4, .int .i64 hi4, .int .i64 se4] S4) from by have h := KD.out.set_ 0 (.int .i64 (-999)); rw [JDs.out] at h; exact h)
  replace KA := Lib.hid (show Blk (w12.setCell ⟨G + 1 + 1 + 1, 0, none⟩ (.int .i64 (-999))) G 58 (recC [.string ad, .string va, .int .i64 st, .int .i64 sz] B [.string tg, .int .i64 lo, .int .i64 hi, .int .i64 1, .int .i64 k2] VA) from KA.out.far (p := ⟨G + 1 + 1 + 1, 0, none⟩) (by simp; try omega) (.int .i64 (-999)))
  replace KK := Lib.hid (show Blk (w12.setCell ⟨G + 1 + 1 + 1, 0, none⟩ (.int .i64 (-999))) gk 24 #[.int .i64 1, .int .i64 k2, .string k3, .int .i64 k4, .int .i64 k5] from KK.out.far (p := ⟨G + 1 + 1 + 1, 0, none⟩) (by have := ND.out; show gk ≠ G + 1 + 1 + 1; omega) (.int .i64 (-999)))
  replace B0 := Lib.hid (show Below w.heap.size w (w12.setCell ⟨G + 1 + 1 + 1, 0, none⟩ (.int .i64 (-999))) from B0.out.setCell (p := ⟨G + 1 + 1 + 1, 0, none⟩) (show w.heap.size ≤ G + 1 + 1 + 1 by have := HG.out; omega) (.int .i64 (-999)))
  go_upto_region 14 with (fail)
  generalize hw : (w12.setCell ⟨G + 1 + 1 + 1, 0, none⟩ (.int .i64 (-999))) = w13 at KA KD KK B0 ⊢
  clear hw fx z0 z1 z2 z3 z4 xa0 xa1 xc0 xc1 xc2 JDs ID
  obtain ⟨xa0, xa1, xc0, xc1, xc2⟩ := head_cells HBD.out KD.out
  have hss0 := HSS.out
  have dg1 : decide (0 ≤ (-999)) = false := decide_eq_false (by omega)
  go_upto_region 18 with (fail)
  clear xa0 xa1 xc0 xc1 xc2 dg1 hss0 KD F7 Z7 JD JDz JDo ID2
  obtain ⟨w18, hwn⟩ : ∃ v, v = w13 := ⟨_, rfl⟩
  rw [← hwn] at KA KK B0 ⊢
  clear hwn
  skip
  have E0 : Ke.OwnA (w18.alloc (.cells #[] 24)) w18.heap.size (.slice (some ⟨w18.heap.size, 0, none⟩) 0 0) [] := ⟨rfl, .inr ⟨w18.heap.size, 0, #[], rfl, Nat.le_refl _, heap_alloc_new w18 _, Nat.le_refl _, Nat.zero_le _, rfl, rfl⟩⟩
  obtain ⟨b2, n2, c2, w19, hr, ho, hb⟩ := Ke.app_A 22 (w18.alloc (.cells #[] 24)) w18.heap.size _ [] E0 (some ⟨bk, fk, none⟩) c l ((HP.out.mono B0.out).mono (by (repeat' (first | (with_reducible exact Below.refl _ _) | (with_reducible assumption) | (with_reducible refine Below.alloc ?_ ?_ _) | (with_reducible refine Below.drew ?_) | (with_reducible refine below_dn ?_) | (with_reducible refine Below.setCell ?_ ?_ _) | (with_reducible exact Nat.le_refl _) | omega | (simp only [World.size_alloc, World.size_setCell, World.size_drew]; omega) | (simp; omega) | (simp; done))))) (by simp) (by have := HN30.out; omega) (by simp)
  rw [HN.out] at hr
  have HR := Lib.hid hr
  have HO := Lib.hid (show Ke.OwnA w19 w18.heap.size (.slice b2 n2 c2) l from ho)
  have BB := Lib.hid (show Below w18.heap.size w18 w19 from ((Below.refl _ _).alloc (Nat.le_refl _) _).trans hb)
  clear hr ho hb E0
  go_upto_region 19 with (at_builtin; refine wpList_app_run rfl _ _ _ _ rfl _ _ _ w19 rfl rfl HR.out ?_)
  clear HR
  have LK := Lib.hid KK.out.lt
  have LGA := Lib.hid KA.out.lt
  have BS := Lib.hid B0.out.size
  replace KA := Lib.hid (KA.out.below BB.out KA.out.lt)
  replace KK := Lib.hid (KK.out.below BB.out KK.out.lt)
  replace B0 := Lib.hid (B0.out.trans (BB.out.mono B0.out.size))
  have hi7 : i < l.length := by rw [HN.out]; exact_mod_cast iN
  obtain ⟨g7, rfl, hn7, hB7, e0, e1, e2, e3, e4, fz7⟩ := own_at HO.out hi7
  have ST := Lib.hid (own_set (j := 2) HO.out hi7 (by decide) (.string oth) (1, k2, oth, k4, k5) (by rw [HX.out]; rfl))
  rw [HX.out] at e0 e1 e2 e3 e4
  simp only at e0 e1 e2 e3 e4
  have n29 : n2 = N := by rw [hn7, HN.out]
  subst n29
  clear hn7
  have hgk : gk ≠ g7 := by have := LK.out; omega
  have hga : G ≠ g7 := by have := LGA.out; omega
  have hrr : w.heap.size ≤ g7 := Nat.le_trans BS.out hB7
  replace KA := Lib.hid (show Blk (w19.setCell ⟨g7, i * 5 + 2, none⟩ (.string oth)) G 58 (recC [.string ad, .string va, .int .i64 st, .int .i64 sz] B [.string tg, .int .i64 lo, .int .i64 hi, .int .i64 1, .int .i64 k2] VA) from KA.out.far (p := ⟨g7, i * 5 + 2, none⟩) (by show G ≠ g7; exact hga) (.string oth))
  replace KK := Lib.hid (show Blk (w19.setCell ⟨g7, i * 5 + 2, none⟩ (.string oth)) gk 24 #[.int .i64 1, .int .i64 k2, .string k3, .int .i64 k4, .int .i64 k5] from KK.out.far (p := ⟨g7, i * 5 + 2, none⟩) (by show gk ≠ g7; exact hgk) (.string oth))
  replace B0 := Lib.hid (show Below w.heap.size w (w19.setCell ⟨g7, i * 5 + 2, none⟩ (.string oth)) from B0.out.setCell (p := ⟨g7, i * 5 + 2, none⟩) hrr (.string oth))
  go_upto_region 20 with (fail)
  generalize hw : (w19.setCell ⟨g7, i * 5 + 2, none⟩ (.string oth)) = w20 at ST KA KK B0 ⊢
  clear hw e0 e1 e2 e3 e4 fz7 hgk hga hrr hB7 hi7 HO BB LK LGA BS
  obtain ⟨a9, c9, e9, -, h9⟩ := OwnR.view encR_len ST.out
  injection e9 with e9a e9b e9c
  subst e9a
  subst e9c
  clear e9b
  have H9 := Lib.hid h9
  clear h9 ST
  go_wp2_with fail
  refine (RB.out _ _ _ H9.out).mono ?_
  rintro e w21 ⟨rfl, hb⟩
  replace H9 := Lib.hid (H9.out.mono hb)
  replace KA := Lib.hid (KA.out.below hb KA.out.lt)
  replace KK := Lib.hid (KK.out.below hb KK.out.lt)
  replace B0 := Lib.hid (B0.out.trans (hb.mono B0.out.size))
  clear hb RB
  cases rB with
  | false =>
    go_wp2_with fail
    refine (SNT.out _ (HLA.out.below B0.out)).mono ?_
    rintro e wz ⟨rfl, hb⟩
    replace B0 := Lib.hid (B0.out.trans (hb.mono B0.out.size))
    clear hb
    go_wp2
    go_ret
    exact ⟨rfl, B0.out⟩
  | true =>
    obtain ⟨z0, z1, z2, z3, z4⟩ := five KK.out
    obtain ⟨xa0, xa1, xa2, xa3, xc0, xc1, xc2, xc3, xc4⟩ := stamp_cells HBA.out KA.out
    cases hc : countsB (1, k2, k3, k4, k5) lo hi with
    | false =>
      have CT1 := Lib.hid (fun X => CT.out lo hi X)
      simp only [hc] at CT1
      go_wp2_with fail
      refine (CT1.out _).mono ?_
      rintro e w22 ⟨rfl, hb⟩
      replace B0 := Lib.hid (B0.out.trans (hb.mono B0.out.size))
      clear hb z0 z1 z2 z3 z4 xa0 xa1 xa2 xa3 xc0 xc1 xc2 xc3 xc4
      go_wp2_with fail
      refine (SNT.out _ (HLA.out.below B0.out)).mono ?_
      rintro e wz ⟨rfl, hb⟩
      replace B0 := Lib.hid (B0.out.trans (hb.mono B0.out.size))
      clear hb
      go_wp2
      go_ret
      exact ⟨rfl, B0.out⟩
    | true =>
      have CT1 := Lib.hid (fun X => CT.out lo hi X)
      simp only [hc] at CT1
      go_wp2_with fail
      refine (CT1.out _).mono ?_
      rintro e w22 ⟨rfl, hb⟩
      replace H9 := Lib.hid (H9.out.mono hb)
      replace KA := Lib.hid (KA.out.below hb KA.out.lt)
      replace KK := Lib.hid (KK.out.below hb KK.out.lt)
      replace B0 := Lib.hid (B0.out.trans (hb.mono B0.out.size))
      clear hb z0 z1 z2 z3 z4 xa0 xa1 xa2 xa3 xc0 xc1 xc2 xc3 xc4
      go_upto_region 22 with (fail)
      have HkA := Lib.hid (show Hs.Blk w22 G 58 (recC [.string ad, .string va, .int .i64 st, .int .i64 sz] B [.string tg, .int .i64 lo, .int .i64 hi, .int .i64 1, .int .i64 k2] VA) from KA.out)
      go_wp2_with (with_reducible refine Hs.wpList_load_all rfl 58 _ rfl G rfl 58 (recC [.string ad, .string va, .int .i64 st, .int .i64 sz] B [.string tg, .int .i64 lo, .int .i64 hi, .int .i64 1, .int .i64 k2] VA) _ HkA.out Tryd.underlying58 JA.out ?_)
      refine (F8.out (by simp) hc _ _ _ H9.out (HLA.out.below B0.out)).mono ?_
      rintro e w23 ⟨rfl, hb⟩
      replace H9 := Lib.hid (H9.out.mono hb)
      replace KA := Lib.hid (KA.out.below hb KA.out.lt)
      replace KK := Lib.hid (KK.out.below hb KK.out.lt)
      replace B0 := Lib.hid (B0.out.trans (hb.mono B0.out.size))
      clear hb HkA F8 CT CT1
      have Z8t := Lib.hid (Z8.out (by simp))
      clear Z8
      by_cases hv : V8 = VA
      · rw [if_pos hv]
        have EQv := Lib.hid (fun W => EQ8.out W)
        simp only [decide_eq_true hv] at EQv
        clear hv EQ8
        go_upto_region 23 with (fail)
        refine wp_region_held_drew (S := fun W => Blk W G 58 (recC [.string ad, .string va, .int .i64 st, .int .i64 sz] B [.string tg, .int .i64 lo, .int .i64 hi, .int .i64 1, .int .i64 k2] VA) ∧ Below w23.heap.size w23 W) (by kernel_rfl) ⟨KA.out.drew, (Below.refl _ w23).drew⟩ (fun hHeld => ?_)
        have H23 := Lib.hid H9.out
        clear H9 KA KK
        have B23 := Lib.hid B0.out
        replace B0 := Lib.hid B0.out.drew
        generalize w23.drew = w24 at B0 hHeld ⊢
        refine wpAnyH_ready (rs := [0]) (by kernel_rfl) (by simp) (AllReadyH.cons rfl (fun K hK => ?_) AllReadyH.nil)
        go_simp
        refine (SNT.out _ (HLA.out.below B0.out)).mono ?_
        rintro e9 w25 ⟨rfl, hb⟩
        replace B0 := Lib.hid (B0.out.trans (hb.mono B0.out.size))
        go_wp2_with fail
        refine hK _ _ ⟨hHeld.1.below hb hHeld.1.lt, hHeld.2.trans (hb.mono hHeld.2.size)⟩ (fun hh1 => ?_)
        clear hK K hHeld hb
        (try simp only [Act.put, List.getElem_toArray, List.getElem_cons_succ, List.getElem_cons_zero, List.setIfInBounds_toArray, List.set_cons_zero, List.set_cons_succ])
        refine wpAnyH_take (i := 1) (v := .bool true) rfl (by kernel_rfl) (by kernel_rfl) (by kernel_rfl) (fun _ _ _ h => h) (Or.inl ⟨by rfl, fun W hW => by go_simp⟩) (by assumption) ?_
        (try simp only [Act.put, List.getElem_toArray, List.getElem_cons_succ, List.getElem_cons_zero, List.setIfInBounds_toArray, List.set_cons_zero, List.set_cons_succ])
        refine wpAnyH_take (i := 2) (v := .int .i64 0) rfl (by kernel_rfl) (by kernel_rfl) (by kernel_rfl) (fun _ _ _ h => h) (Or.inl ⟨by rfl, fun W hW => by go_simp⟩) (by assumption) ?_
        (try simp only [Act.put, List.getElem_toArray, List.getElem_cons_succ, List.getElem_cons_zero, List.setIfInBounds_toArray, List.set_cons_zero, List.set_cons_succ])
        refine wpAnyH_take (i := 3) (v := .bool false) rfl (by kernel_rfl) (by kernel_rfl) (by kernel_rfl) (fun _ _ _ h => h) (Or.inl ⟨by rfl, fun W hW => by go_simp⟩) (by assumption) ?_
        (try simp only [Act.put, List.getElem_toArray, List.getElem_cons_succ, List.getElem_cons_zero, List.setIfInBounds_toArray, List.set_cons_zero, List.set_cons_succ])
        refine wpAnyH_take (i := 4) (v := .slice (some ⟨g7, 0, none⟩) n2 c2) rfl (by kernel_rfl) (by kernel_rfl) (by kernel_rfl) (fun _ _ _ h => h) (Or.inl ⟨by rfl, fun W hW => by go_simp⟩) (by assumption) ?_
        (try simp only [Act.put, List.getElem_toArray, List.getElem_cons_succ, List.getElem_cons_zero, List.setIfInBounds_toArray, List.set_cons_zero, List.set_cons_succ])
        refine wpAnyH_take (i := 5) (v := .int .u8 (q : Nat)) rfl (by kernel_rfl) (by kernel_rfl) (by kernel_rfl) (fun _ _ _ h => h) (Or.inl ⟨by rfl, fun W hW => by go_simp⟩) (by assumption) ?_
        (try simp only [Act.put, List.getElem_toArray, List.getElem_cons_succ, List.getElem_cons_zero, List.setIfInBounds_toArray, List.set_cons_zero, List.set_cons_succ])
        refine wpAnyH_take (i := 6) (v := .int .i64 (q : Int)) rfl (by kernel_rfl) (by kernel_rfl) (by kernel_rfl) (fun _ _ _ h => h) (Or.inl ⟨by rfl, fun W hW => by go_simp⟩) (by assumption) ?_
        (try simp only [Act.put, List.getElem_toArray, List.getElem_cons_succ, List.getElem_cons_zero, List.setIfInBounds_toArray, List.set_cons_zero, List.set_cons_succ])
        refine wpAnyH_take (i := 7) (v := .slice (some ⟨bk, fk, none⟩) n2 c) rfl (by kernel_rfl) (by kernel_rfl) (by kernel_rfl) (fun _ _ _ h => h) (Or.inl ⟨by rfl, fun W hW => by go_simp⟩) (by assumption) ?_
        (try simp only [Act.put, List.getElem_toArray, List.getElem_cons_succ, List.getElem_cons_zero, List.setIfInBounds_toArray, List.set_cons_zero, List.set_cons_succ])
        refine wpAnyH_take (i := 8) (v := .int .i64 (n2 : Int)) rfl (by kernel_rfl) (by kernel_rfl) (by kernel_rfl) (fun _ _ _ h => h) (Or.inl ⟨by rfl, fun W hW => by go_simp⟩) (by assumption) ?_
        (try simp only [Act.put, List.getElem_toArray, List.getElem_cons_succ, List.getElem_cons_zero, List.setIfInBounds_toArray, List.set_cons_zero, List.set_cons_succ])
        refine wpAnyH_take (i := 9) (v := .int .i64 (i : Int)) rfl (by kernel_rfl) (by kernel_rfl) (by kernel_rfl) (fun _ _ _ h => h) (Or.inl ⟨by rfl, fun W hW => by go_simp⟩) (by assumption) ?_
        (try simp only [Act.put, List.getElem_toArray, List.getElem_cons_succ, List.getElem_cons_zero, List.setIfInBounds_toArray, List.set_cons_zero, List.set_cons_succ])
        have GS := Lib.hid (show (l.set i (1, k2, oth, k4, k5)).getD i r0 = (1, k2, oth, k4, k5) from getD_set_eq l i _ (by rw [HN.out]; exact_mod_cast iN))
        have R9 := Lib.hid (fun (W : World) (h : Below w23.heap.size w23 W) => RwA.cells_ (H23.out.mono h) (k := i) (by rw [List.length_set, HN.out]; exact_mod_cast iN) rfl)
        simp only [GS.out, Nat.zero_add] at R9
        refine wpAnyH_take (i := 10) (v := .pointer (some ⟨g7, i * 5, none⟩)) rfl (by kernel_rfl) (by kernel_rfl) (by kernel_rfl) (fun _ _ _ h => h) (Or.inl ⟨by rfl, fun W hW => by go_simp⟩) (by assumption) ?_
        (try simp only [Act.put, List.getElem_toArray, List.getElem_cons_succ, List.getElem_cons_zero, List.setIfInBounds_toArray, List.set_cons_zero, List.set_cons_succ])
        refine wpAnyH_take (i := 11) (v := .agg #[.int .i64 1, .int .i64 k2, .string oth, .int .i64 k4, .int .i64 k5]) rfl (by kernel_rfl) (by kernel_rfl) (by kernel_rfl) (fun _ _ _ h => h) (Or.inl ⟨by rfl, fun W hW => (by obtain ⟨m0, m1, m2, m3, m4⟩ := R9.out W hW.2; go_simp)⟩) (by assumption) ?_
        (try simp only [Act.put, List.getElem_toArray, List.getElem_cons_succ, List.getElem_cons_zero, List.setIfInBounds_toArray, List.set_cons_zero, List.set_cons_succ])
        refine wpAnyH_take (i := 12) (v := .agg (recC [.string ad, .string va, .int .i64 st, .int .i64 sz] B [.string tg, .int .i64 lo, .int .i64 hi, .int .i64 1, .int .i64 k2] VA)) rfl (by kernel_rfl) (by kernel_rfl) (by kernel_rfl) (fun _ _ _ h => h) (Or.inl ⟨by rfl, fun W hW => exec_load_row 58 _ rfl G rfl 58 (recC [.string ad, .string va, .int .i64 st, .int .i64 sz] B [.string tg, .int .i64 lo, .int .i64 hi, .int .i64 1, .int .i64 k2] VA) (0, 0) _ hW.1 Tryd.underlying58 rfl JA.out⟩) (by assumption) ?_
        (try simp only [Act.put, List.getElem_toArray, List.getElem_cons_succ, List.getElem_cons_zero, List.setIfInBounds_toArray, List.set_cons_zero, List.set_cons_succ])
        refine wpAnyH_take (i := 15) (v := .pointer (some ⟨G, 25, none⟩)) rfl (by kernel_rfl) (by kernel_rfl) (by kernel_rfl) (fun _ _ _ h => h) (Or.inl ⟨by rfl, fun W hW => by go_simp⟩) (by assumption) ?_
        (try simp only [Act.put, List.getElem_toArray, List.getElem_cons_succ, List.getElem_cons_zero, List.setIfInBounds_toArray, List.set_cons_zero, List.set_cons_succ])
        refine wpAnyH_take (i := 16) (v := .agg (VA.map Hs.bv).toArray) rfl (by kernel_rfl) (by kernel_rfl) (by kernel_rfl) (fun _ _ _ h => h) (Or.inl ⟨by rfl, fun W hW => exec_load_mid 50 _ rfl G 25 rfl (VA.map Hs.bv) _ (show W.rangeAt G 25 (VA.map Hs.bv) from rec_S hW.1 HBA.out) Tryd.underlying50 rfl SI.out⟩) (by assumption) ?_
        (try simp only [Act.put, List.getElem_toArray, List.getElem_cons_succ, List.getElem_cons_zero, List.setIfInBounds_toArray, List.set_cons_zero, List.set_cons_succ])
        refine wpAnyH_ready (rs := [13]) (by kernel_rfl) (by simp) (AllReadyH.cons rfl (fun K hK => ?_) AllReadyH.nil)
        go_simp
        refine (Z8t.out _ (HLA.out.below B0.out)).mono ?_
        rintro e9 w26 ⟨rfl, hb⟩
        replace B0 := Lib.hid (B0.out.trans (hb.mono B0.out.size))
        go_wp2_with fail
        refine hK _ _ ⟨hh1.1.below hb hh1.1.lt, hh1.2.trans (hb.mono hh1.2.size)⟩ (fun hh2 => ?_)
        clear hK K hh1 hb
        (try simp only [Act.put, List.getElem_toArray, List.getElem_cons_succ, List.getElem_cons_zero, List.setIfInBounds_toArray, List.set_cons_zero, List.set_cons_succ])
        refine wpAnyH_take (i := 14) (v := .agg (V8.map Hs.bv).toArray) rfl (by kernel_rfl) (by kernel_rfl) (by kernel_rfl) (fun _ _ _ h => h) (Or.inl ⟨by rfl, fun W hW => (by have X := X8.out W; go_simp)⟩) (by assumption) ?_
        (try simp only [Act.put, List.getElem_toArray, List.getElem_cons_succ, List.getElem_cons_zero, List.setIfInBounds_toArray, List.set_cons_zero, List.set_cons_succ])
        refine wpAnyH_take (i := 17) (v := .bool false) rfl (by kernel_rfl) (by kernel_rfl) (by kernel_rfl) (fun _ _ _ h => h) (Or.inl ⟨by rfl, fun W hW => (by have EQ := EQv.out; go_simp)⟩) (by assumption) ?_
        (try simp only [Act.put, List.getElem_toArray, List.getElem_cons_succ, List.getElem_cons_zero, List.setIfInBounds_toArray, List.set_cons_zero, List.set_cons_succ])
        refine wpAnyH_take (i := 18) (v := .bool true) rfl (by kernel_rfl) (by kernel_rfl) (by kernel_rfl) (fun _ _ _ h => h) (Or.inl ⟨by rfl, fun W hW => by go_simp⟩) (by assumption) ?_
        (try simp only [Act.put, List.getElem_toArray, List.getElem_cons_succ, List.getElem_cons_zero, List.setIfInBounds_toArray, List.set_cons_zero, List.set_cons_succ])
        refine wpAnyH_take (i := 19) (v := .bool true) rfl (by kernel_rfl) (by kernel_rfl) (by kernel_rfl) (fun _ _ _ h => h) (Or.inl ⟨by rfl, fun W hW => by go_simp⟩) (by assumption) ?_
        (try simp only [Act.put, List.getElem_toArray, List.getElem_cons_succ, List.getElem_cons_zero, List.setIfInBounds_toArray, List.set_cons_zero, List.set_cons_succ])
        refine wpAnyH_take (i := 20) (v := .bool true) rfl (by kernel_rfl) (by kernel_rfl) (by kernel_rfl) (fun _ _ _ h => h) (Or.inl ⟨by rfl, fun W hW => by go_simp⟩) (by assumption) ?_
        (try simp only [Act.put, List.getElem_toArray, List.getElem_cons_succ, List.getElem_cons_zero, List.setIfInBounds_toArray, List.set_cons_zero, List.set_cons_succ])
        refine wpAnyH_done (by kernel_rfl) ?_ _
        go_wp2
        go_ret
        exact ⟨rfl, B0.out⟩
      · rw [if_neg hv]
        have EQv := Lib.hid (fun W => EQ8.out W)
        simp only [decide_eq_false hv] at EQv
        clear hv EQ8
        go_upto_region 23 with (fail)
        refine wp_region_held_drew (S := fun W => Blk W G 58 (recC [.string ad, .string va, .int .i64 st, .int .i64 sz] B [.string tg, .int .i64 lo, .int .i64 hi, .int .i64 1, .int .i64 k2] VA) ∧ Below w23.heap.size w23 W) (by kernel_rfl) ⟨KA.out.drew, (Below.refl _ w23).drew⟩ (fun hHeld => ?_)
        have H23 := Lib.hid H9.out
        clear H9 KA KK
        have B23 := Lib.hid B0.out
        replace B0 := Lib.hid B0.out.drew
        generalize w23.drew = w24 at B0 hHeld ⊢
        refine wpAnyH_ready (rs := [0]) (by kernel_rfl) (by simp) (AllReadyH.cons rfl (fun K hK => ?_) AllReadyH.nil)
        go_simp
        refine (SNT.out _ (HLA.out.below B0.out)).mono ?_
        rintro e9 w25 ⟨rfl, hb⟩
        replace B0 := Lib.hid (B0.out.trans (hb.mono B0.out.size))
        go_wp2_with fail
        refine hK _ _ ⟨hHeld.1.below hb hHeld.1.lt, hHeld.2.trans (hb.mono hHeld.2.size)⟩ (fun hh1 => ?_)
        clear hK K hHeld hb
        (try simp only [Act.put, List.getElem_toArray, List.getElem_cons_succ, List.getElem_cons_zero, List.setIfInBounds_toArray, List.set_cons_zero, List.set_cons_succ])
        refine wpAnyH_take (i := 1) (v := .bool true) rfl (by kernel_rfl) (by kernel_rfl) (by kernel_rfl) (fun _ _ _ h => h) (Or.inl ⟨by rfl, fun W hW => by go_simp⟩) (by assumption) ?_
        (try simp only [Act.put, List.getElem_toArray, List.getElem_cons_succ, List.getElem_cons_zero, List.setIfInBounds_toArray, List.set_cons_zero, List.set_cons_succ])
        refine wpAnyH_take (i := 2) (v := .int .i64 8) rfl (by kernel_rfl) (by kernel_rfl) (by kernel_rfl) (fun _ _ _ h => h) (Or.inl ⟨by rfl, fun W hW => by go_simp⟩) (by assumption) ?_
        (try simp only [Act.put, List.getElem_toArray, List.getElem_cons_succ, List.getElem_cons_zero, List.setIfInBounds_toArray, List.set_cons_zero, List.set_cons_succ])
        refine wpAnyH_take (i := 3) (v := .bool true) rfl (by kernel_rfl) (by kernel_rfl) (by kernel_rfl) (fun _ _ _ h => h) (Or.inl ⟨by rfl, fun W hW => by go_simp⟩) (by assumption) ?_
        (try simp only [Act.put, List.getElem_toArray, List.getElem_cons_succ, List.getElem_cons_zero, List.setIfInBounds_toArray, List.set_cons_zero, List.set_cons_succ])
        refine wpAnyH_take (i := 4) (v := .slice (some ⟨g7, 0, none⟩) n2 c2) rfl (by kernel_rfl) (by kernel_rfl) (by kernel_rfl) (fun _ _ _ h => h) (Or.inl ⟨by rfl, fun W hW => by go_simp⟩) (by assumption) ?_
        (try simp only [Act.put, List.getElem_toArray, List.getElem_cons_succ, List.getElem_cons_zero, List.setIfInBounds_toArray, List.set_cons_zero, List.set_cons_succ])
        refine wpAnyH_take (i := 5) (v := .int .u8 (q : Nat)) rfl (by kernel_rfl) (by kernel_rfl) (by kernel_rfl) (fun _ _ _ h => h) (Or.inl ⟨by rfl, fun W hW => by go_simp⟩) (by assumption) ?_
        (try simp only [Act.put, List.getElem_toArray, List.getElem_cons_succ, List.getElem_cons_zero, List.setIfInBounds_toArray, List.set_cons_zero, List.set_cons_succ])
        refine wpAnyH_take (i := 6) (v := .int .i64 (q : Int)) rfl (by kernel_rfl) (by kernel_rfl) (by kernel_rfl) (fun _ _ _ h => h) (Or.inl ⟨by rfl, fun W hW => by go_simp⟩) (by assumption) ?_
        (try simp only [Act.put, List.getElem_toArray, List.getElem_cons_succ, List.getElem_cons_zero, List.setIfInBounds_toArray, List.set_cons_zero, List.set_cons_succ])
        refine wpAnyH_take (i := 7) (v := .slice (some ⟨bk, fk, none⟩) n2 c) rfl (by kernel_rfl) (by kernel_rfl) (by kernel_rfl) (fun _ _ _ h => h) (Or.inl ⟨by rfl, fun W hW => by go_simp⟩) (by assumption) ?_
        (try simp only [Act.put, List.getElem_toArray, List.getElem_cons_succ, List.getElem_cons_zero, List.setIfInBounds_toArray, List.set_cons_zero, List.set_cons_succ])
        refine wpAnyH_take (i := 8) (v := .int .i64 (n2 : Int)) rfl (by kernel_rfl) (by kernel_rfl) (by kernel_rfl) (fun _ _ _ h => h) (Or.inl ⟨by rfl, fun W hW => by go_simp⟩) (by assumption) ?_
        (try simp only [Act.put, List.getElem_toArray, List.getElem_cons_succ, List.getElem_cons_zero, List.setIfInBounds_toArray, List.set_cons_zero, List.set_cons_succ])
        refine wpAnyH_take (i := 9) (v := .int .i64 (i : Int)) rfl (by kernel_rfl) (by kernel_rfl) (by kernel_rfl) (fun _ _ _ h => h) (Or.inl ⟨by rfl, fun W hW => by go_simp⟩) (by assumption) ?_
        (try simp only [Act.put, List.getElem_toArray, List.getElem_cons_succ, List.getElem_cons_zero, List.setIfInBounds_toArray, List.set_cons_zero, List.set_cons_succ])
        have GS := Lib.hid (show (l.set i (1, k2, oth, k4, k5)).getD i r0 = (1, k2, oth, k4, k5) from getD_set_eq l i _ (by rw [HN.out]; exact_mod_cast iN))
        have R9 := Lib.hid (fun (W : World) (h : Below w23.heap.size w23 W) => RwA.cells_ (H23.out.mono h) (k := i) (by rw [List.length_set, HN.out]; exact_mod_cast iN) rfl)
        simp only [GS.out, Nat.zero_add] at R9
        refine wpAnyH_take (i := 10) (v := .pointer (some ⟨g7, i * 5, none⟩)) rfl (by kernel_rfl) (by kernel_rfl) (by kernel_rfl) (fun _ _ _ h => h) (Or.inl ⟨by rfl, fun W hW => by go_simp⟩) (by assumption) ?_
        (try simp only [Act.put, List.getElem_toArray, List.getElem_cons_succ, List.getElem_cons_zero, List.setIfInBounds_toArray, List.set_cons_zero, List.set_cons_succ])
        refine wpAnyH_take (i := 11) (v := .agg #[.int .i64 1, .int .i64 k2, .string oth, .int .i64 k4, .int .i64 k5]) rfl (by kernel_rfl) (by kernel_rfl) (by kernel_rfl) (fun _ _ _ h => h) (Or.inl ⟨by rfl, fun W hW => (by obtain ⟨m0, m1, m2, m3, m4⟩ := R9.out W hW.2; go_simp)⟩) (by assumption) ?_
        (try simp only [Act.put, List.getElem_toArray, List.getElem_cons_succ, List.getElem_cons_zero, List.setIfInBounds_toArray, List.set_cons_zero, List.set_cons_succ])
        refine wpAnyH_take (i := 12) (v := .agg (recC [.string ad, .string va, .int .i64 st, .int .i64 sz] B [.string tg, .int .i64 lo, .int .i64 hi, .int .i64 1, .int .i64 k2] VA)) rfl (by kernel_rfl) (by kernel_rfl) (by kernel_rfl) (fun _ _ _ h => h) (Or.inl ⟨by rfl, fun W hW => exec_load_row 58 _ rfl G rfl 58 (recC [.string ad, .string va, .int .i64 st, .int .i64 sz] B [.string tg, .int .i64 lo, .int .i64 hi, .int .i64 1, .int .i64 k2] VA) (0, 0) _ hW.1 Tryd.underlying58 rfl JA.out⟩) (by assumption) ?_
        (try simp only [Act.put, List.getElem_toArray, List.getElem_cons_succ, List.getElem_cons_zero, List.setIfInBounds_toArray, List.set_cons_zero, List.set_cons_succ])
        refine wpAnyH_take (i := 15) (v := .pointer (some ⟨G, 25, none⟩)) rfl (by kernel_rfl) (by kernel_rfl) (by kernel_rfl) (fun _ _ _ h => h) (Or.inl ⟨by rfl, fun W hW => by go_simp⟩) (by assumption) ?_
        (try simp only [Act.put, List.getElem_toArray, List.getElem_cons_succ, List.getElem_cons_zero, List.setIfInBounds_toArray, List.set_cons_zero, List.set_cons_succ])
        refine wpAnyH_take (i := 16) (v := .agg (VA.map Hs.bv).toArray) rfl (by kernel_rfl) (by kernel_rfl) (by kernel_rfl) (fun _ _ _ h => h) (Or.inl ⟨by rfl, fun W hW => exec_load_mid 50 _ rfl G 25 rfl (VA.map Hs.bv) _ (show W.rangeAt G 25 (VA.map Hs.bv) from rec_S hW.1 HBA.out) Tryd.underlying50 rfl SI.out⟩) (by assumption) ?_
        (try simp only [Act.put, List.getElem_toArray, List.getElem_cons_succ, List.getElem_cons_zero, List.setIfInBounds_toArray, List.set_cons_zero, List.set_cons_succ])
        refine wpAnyH_ready (rs := [13]) (by kernel_rfl) (by simp) (AllReadyH.cons rfl (fun K hK => ?_) AllReadyH.nil)
        go_simp
        refine (Z8t.out _ (HLA.out.below B0.out)).mono ?_
        rintro e9 w26 ⟨rfl, hb⟩
        replace B0 := Lib.hid (B0.out.trans (hb.mono B0.out.size))
        go_wp2_with fail
        refine hK _ _ ⟨hh1.1.below hb hh1.1.lt, hh1.2.trans (hb.mono hh1.2.size)⟩ (fun hh2 => ?_)
        clear hK K hh1 hb
        (try simp only [Act.put, List.getElem_toArray, List.getElem_cons_succ, List.getElem_cons_zero, List.setIfInBounds_toArray, List.set_cons_zero, List.set_cons_succ])
        refine wpAnyH_take (i := 14) (v := .agg (V8.map Hs.bv).toArray) rfl (by kernel_rfl) (by kernel_rfl) (by kernel_rfl) (fun _ _ _ h => h) (Or.inl ⟨by rfl, fun W hW => (by have X := X8.out W; go_simp)⟩) (by assumption) ?_
        (try simp only [Act.put, List.getElem_toArray, List.getElem_cons_succ, List.getElem_cons_zero, List.setIfInBounds_toArray, List.set_cons_zero, List.set_cons_succ])
        refine wpAnyH_take (i := 17) (v := .bool true) rfl (by kernel_rfl) (by kernel_rfl) (by kernel_rfl) (fun _ _ _ h => h) (Or.inl ⟨by rfl, fun W hW => (by have EQ := EQv.out; go_simp)⟩) (by assumption) ?_
        (try simp only [Act.put, List.getElem_toArray, List.getElem_cons_succ, List.getElem_cons_zero, List.setIfInBounds_toArray, List.set_cons_zero, List.set_cons_succ])
        refine wpAnyH_take (i := 18) (v := .bool true) rfl (by kernel_rfl) (by kernel_rfl) (by kernel_rfl) (fun _ _ _ h => h) (Or.inl ⟨by rfl, fun W hW => by go_simp⟩) (by assumption) ?_
        (try simp only [Act.put, List.getElem_toArray, List.getElem_cons_succ, List.getElem_cons_zero, List.setIfInBounds_toArray, List.set_cons_zero, List.set_cons_succ])
        refine wpAnyH_take (i := 19) (v := .bool true) rfl (by kernel_rfl) (by kernel_rfl) (by kernel_rfl) (fun _ _ _ h => h) (Or.inl ⟨by rfl, fun W hW => by go_simp⟩) (by assumption) ?_
        (try simp only [Act.put, List.getElem_toArray, List.getElem_cons_succ, List.getElem_cons_zero, List.setIfInBounds_toArray, List.set_cons_zero, List.set_cons_succ])
        refine wpAnyH_take (i := 20) (v := .bool true) rfl (by kernel_rfl) (by kernel_rfl) (by kernel_rfl) (fun _ _ _ h => h) (Or.inl ⟨by rfl, fun W hW => by go_simp⟩) (by assumption) ?_
        (try simp only [Act.put, List.getElem_toArray, List.getElem_cons_succ, List.getElem_cons_zero, List.setIfInBounds_toArray, List.set_cons_zero, List.set_cons_succ])
        refine wpAnyH_done (by kernel_rfl) ?_ _
        go_wp2
        go_ret
        exact ⟨rfl, B0.out⟩
end Go.Proofs.YtcdcnklfcmoiiaaDoor
