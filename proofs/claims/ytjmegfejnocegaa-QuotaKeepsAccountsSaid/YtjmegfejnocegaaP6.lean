/- Law 6: accounts are kept as the specification keeps them. -/
import Derived.Test.YtjmegfejnocegaaP7
namespace Go.Proofs.Ytjmegfejnocegaa
set_option linter.unusedVariables false
set_option linter.unusedSimpArgs false
open Go.RowKit
theorem openL_ok {l : List Ac} (h : OkA l) (x wt : Int) : OkA (openL l x wt) := by
  unfold openL
  split
  · rename_i h0
    unfold openE at h0
    split at h0
    · cases h0
    · split at h0
      · cases h0
      · split at h0
        · cases h0
        · rename_i a b c
          exact h.ins x wt (by omega) (by omega) (by omega) (by simpa using b) (by omega)
  · exact ⟨fun j hj => absurd hj (by simp), by simp⟩
theorem useLL_ok {l : List Ac} (h : OkA l) (x m : Int) : OkA (useLL l x m) := by
  unfold useLL
  split
  · rename_i h0
    unfold useE at h0
    split at h0
    · rename_i a
      split at h0
      · cases h0
      · exact h.use _ _ ((hasA_iff l x).1 a).1 (by omega) (by omega)
    · cases h0
  · exact ⟨fun j hj => absurd hj (by simp), by simp⟩
set_option maxRecDepth 100000 in
set_option maxHeartbeats 1000000 in
theorem keeps_out (a : Option Addr) (cap : Nat) (l : List Ac) (x wt m : Int) (w : World) (hp : AcA w a l) (hm : l.length ≤ 9223372036854775807) (h : ¬ (l.length ≤ 60 ∧ vA l = true)) :
    Calls Try.prog 6 #[.slice a l.length cap, .int .i64 x, .int .i64 wt, .int .i64 m] w (Truly w) := by
  have CS := Lib.hid (fun W => sane W)
  have CV := Lib.hid (fun W (hb : Below w.heap.size w W) => accounts_any a cap l W (hp.mono hb) hm)
  have CU := Lib.hid (fun W (hb : Below w.heap.size w W) => accountsref_any a cap l W (hp.mono hb) hm)
  by_cases c1 : 60 < l.length
  · obtain ⟨N, hN⟩ : ∃ N, l.length = N := ⟨_, rfl⟩
    rw [hN] at c1 hm ⊢
    clear hp hN CV CU h
    go_enter Try.func6, Try.ntmps6
    go_wp2_with fail
    refine (CS.out _).mono ?_
    rintro e w1 ⟨rfl, hb⟩
    go_wp2
    go_ret
    exact ⟨rfl, hb⟩
  have c2 : vA l = false := by
    cases hv : vA l with
    | false => rfl
    | true => exact absurd ⟨by omega, hv⟩ h
  rw [c2] at CV CU
  have t1 : (false != false) = false := rfl
  obtain ⟨N, hN⟩ : ∃ N, l.length = N := ⟨_, rfl⟩
  rw [hN] at c1 hm CV CU ⊢
  clear hp hN h c2
  go_enter Try.func6, Try.ntmps6
  go_wp2_with fail
  refine (CV.out _ (Below.refl _ _)).mono ?_
  rintro e w1 ⟨rfl, hb⟩
  have B1 := Lib.hid hb
  clear hb
  go_wp2_with fail
  refine (CU.out _ B1.out).mono ?_
  rintro e w2 ⟨rfl, hb⟩
  have B2 := Lib.hid (show Below w.heap.size w w2 from bt B1.out hb)
  clear hb
  go_wp2_with fail
  refine (CU.out _ B2.out).mono ?_
  rintro e w3 ⟨rfl, hb⟩
  have B3 := Lib.hid (show Below w.heap.size w w3 from bt B2.out hb)
  clear hb
  go_wp2_with fail
  refine (CS.out _).mono ?_
  rintro e w4 ⟨rfl, hb⟩
  have B4 := Lib.hid (show Below w.heap.size w w4 from bt B3.out hb)
  clear hb
  go_wp2
  go_ret
  exact ⟨rfl, B4.out⟩
set_option maxRecDepth 100000 in
set_option maxHeartbeats 2000000 in
theorem keeps_in (a : Option Addr) (cap : Nat) (l : List Ac) (x wt m : Int) (w : World) (hp : AcA w a l) (h1 : l.length ≤ 60) (h2 : vA l = true) :
    Calls Try.prog 6 #[.slice a l.length cap, .int .i64 x, .int .i64 wt, .int .i64 m] w (Truly w) := by
  have hok := (vA_iff l).1 h2
  have CS := Lib.hid (fun W => sane W)
  have CV := Lib.hid (fun W (hb : Below w.heap.size w W) => accounts_any a cap l W (hp.mono hb) (by omega))
  have CU := Lib.hid (fun W (hb : Below w.heap.size w W) => accountsref_any a cap l W (hp.mono hb) (by omega))
  rw [h2] at CV CU
  have O1 := Lib.hid (fun W (hb : Below w.heap.size w W) => open_any a cap l x wt W (hp.mono hb) hok)
  have O2 := Lib.hid (fun W (hb : Below w.heap.size w W) => openref_any a cap l x wt W (hp.mono hb) hok)
  have U1 := Lib.hid (fun W (hb : Below w.heap.size w W) => use_any a cap l x m W (hp.mono hb) hok)
  have U2 := Lib.hid (fun W (hb : Below w.heap.size w W) => useref_any a cap l x m W (hp.mono hb) hok)
  have T1 := Lib.hid (fun W (hb : Below w.heap.size w W) => total_any a cap l W (hp.mono hb) hok)
  have T2 := Lib.hid (fun W (hb : Below w.heap.size w W) => totalref_any a cap l W (hp.mono hb) hok)
  have OK1 := openL_ok hok x wt
  have OK2 := useLL_ok hok x m
  have SA1 := Lib.hid (fun a1 a2 c1 c2 W h1 h2 => sameacc_any a1 a2 c1 c2 (openL l x wt) W h1 h2 (by have := OK1.2; omega))
  have SA2 := Lib.hid (fun a1 a2 c1 c2 W h1 h2 => sameacc_any a1 a2 c1 c2 (useLL l x m) W h1 h2 (by have := OK2.2; omega))
  have AC1 := Lib.hid (fun a1 c1 W h1 => accounts_any a1 c1 (openL l x wt) W h1 (by have := OK1.2; omega))
  have AC2 := Lib.hid (fun a1 c1 W h1 => accounts_any a1 c1 (useLL l x m) W h1 (by have := OK2.2; omega))
  rw [(vA_iff _).2 OK1] at AC1
  rw [(vA_iff _).2 OK2] at AC2
  obtain ⟨L1, hL1⟩ : ∃ v, openL l x wt = v := ⟨_, rfl⟩
  obtain ⟨L2, hL2⟩ : ∃ v, useLL l x m = v := ⟨_, rfl⟩
  obtain ⟨E1, hE1⟩ : ∃ v, openE l x wt = v := ⟨_, rfl⟩
  obtain ⟨E2, hE2⟩ : ∃ v, useE l x m = v := ⟨_, rfl⟩
  obtain ⟨T, hT⟩ : ∃ v, used l = v := ⟨_, rfl⟩
  rw [hL1] at SA1 AC1
  rw [hL2] at SA2 AC2
  rw [hL1, hE1] at O1 O2
  rw [hL2, hE2] at U1 U2
  rw [hT] at T1 T2
  obtain ⟨N1, hN1⟩ : ∃ N, L1.length = N := ⟨_, rfl⟩
  obtain ⟨N2, hN2⟩ : ∃ N, L2.length = N := ⟨_, rfl⟩
  obtain ⟨N, hN⟩ : ∃ N, l.length = N := ⟨_, rfl⟩
  have t0 : (true != true) = false := rfl
  have t1 : (E1 == E1) = true := beq_self_eq_true E1
  have t2 : (E2 == E2) = true := beq_self_eq_true E2
  have t3 : (T == T) = true := beq_self_eq_true T
  rw [hN] at h1 CV CU O1 O2 U1 U2 T1 T2 ⊢
  rw [hN1] at SA1 AC1
  rw [hN2] at SA2 AC2
  have HN1 := Lib.hid hN1
  have HN2 := Lib.hid hN2
  clear hp h2 hok OK1 OK2 hL1 hL2 hE1 hE2 hT hN hN1 hN2
  go_enter Try.func6, Try.ntmps6
  go_wp2_with fail
  refine (CV.out _ (Below.refl _ _)).mono ?_
  rintro e w1 ⟨rfl, hb⟩
  have B1 := Lib.hid hb
  clear hb
  go_wp2_with fail
  refine (CU.out _ B1.out).mono ?_
  rintro e w2 ⟨rfl, hb⟩
  have B2 := Lib.hid (show Below w.heap.size w w2 from bt B1.out hb)
  clear hb
  go_wp2_with fail
  refine (CU.out _ B2.out).mono ?_
  rintro e w3 ⟨rfl, hb⟩
  have B3 := Lib.hid (show Below w.heap.size w w3 from bt B2.out hb)
  clear hb
  go_wp2_with fail
  refine (O1.out _ B3.out).mono ?_
  rintro e w4 ⟨b4, c4, rfl, hr, hb⟩
  rw [HN1.out]
  have B4 := Lib.hid (show Below w.heap.size w w4 from bt B3.out hb)
  have R1 := Lib.hid hr
  clear hb hr
  go_wp2_with fail
  refine (O2.out _ B4.out).mono ?_
  rintro e w5 ⟨b5, c5, rfl, hr, hb⟩
  rw [HN1.out]
  have B5 := Lib.hid ((show Below w.heap.size w w5 from bt B4.out hb).alloc (bt B4.out hb).size (.cells #[.slice b5 N1 c5, .int .i64 E1] 41))
  replace R1 := Lib.hid ((R1.out.mono hb).mono ((Below.refl w5.heap.size w5).alloc (Nat.le_refl _) (.cells #[.slice b5 N1 c5, .int .i64 E1] 41)))
  have R2 := Lib.hid (hr.mono ((Below.refl w5.heap.size w5).alloc (Nat.le_refl _) (.cells #[.slice b5 N1 c5, .int .i64 E1] 41)))
  have K1 := Lib.hid (Blk.new w5 41 #[.slice b5 N1 c5, .int .i64 E1])
  clear hb hr
  go_wp2_with fail
  refine (U1.out _ B5.out).mono ?_
  rintro e w6 ⟨b6, c6, rfl, hr, hb⟩
  rw [HN2.out]
  have B6 := Lib.hid (show Below w.heap.size w w6 from bt B5.out hb)
  replace R1 := Lib.hid (R1.out.mono hb)
  replace R2 := Lib.hid (R2.out.mono hb)
  replace K1 := Lib.hid (K1.out.below hb K1.out.lt)
  have R3 := Lib.hid hr
  clear hb hr
  go_wp2_with fail
  refine (U2.out _ B6.out).mono ?_
  rintro e w7 ⟨b7, c7, rfl, hr, hb⟩
  rw [HN2.out]
  have al := (Below.refl w7.heap.size w7).alloc (Nat.le_refl _) (.cells #[.slice b7 N2 c7, .int .i64 E2] 41)
  have B7 := Lib.hid (bt (show Below w.heap.size w w7 from bt B6.out hb) al)
  replace R1 := Lib.hid ((R1.out.mono hb).mono al)
  replace R2 := Lib.hid ((R2.out.mono hb).mono al)
  replace R3 := Lib.hid ((R3.out.mono hb).mono al)
  have R4 := Lib.hid (hr.mono al)
  replace K1 := Lib.hid ((K1.out.below hb K1.out.lt).alloc (.cells #[.slice b7 N2 c7, .int .i64 E2] 41))
  have K2 := Lib.hid (Blk.new w7 41 #[.slice b7 N2 c7, .int .i64 E2])
  clear hb hr al
  go_wp2_with fail
  refine (CS.out _).mono ?_
  rintro e w8 ⟨rfl, hb⟩
  have B8 := Lib.hid (show Below w.heap.size w w8 from bt B7.out hb)
  replace R1 := Lib.hid (R1.out.mono hb)
  replace R2 := Lib.hid (R2.out.mono hb)
  replace R3 := Lib.hid (R3.out.mono hb)
  replace R4 := Lib.hid (R4.out.mono hb)
  replace K1 := Lib.hid (K1.out.below hb K1.out.lt)
  replace K2 := Lib.hid (K2.out.below hb K2.out.lt)
  have k0 := K1.out.cell 0
  have k1 := K1.out.cell 1
  change _ = some (Value.slice b5 N1 c5) at k0
  change _ = some (Value.int .i64 E1) at k1
  clear hb
  go_wp2_with fail
  refine (SA1.out _ _ _ _ _ R1.out R2.out).mono ?_
  rintro e w9 ⟨rfl, hb⟩
  have B9 := Lib.hid (show Below w.heap.size w w9 from bt B8.out hb)
  replace R1 := Lib.hid (R1.out.mono hb)
  replace R3 := Lib.hid (R3.out.mono hb)
  replace R4 := Lib.hid (R4.out.mono hb)
  replace K2 := Lib.hid (K2.out.below hb K2.out.lt)
  have j0 := K2.out.cell 0
  have j1 := K2.out.cell 1
  change _ = some (Value.slice b7 N2 c7) at j0
  change _ = some (Value.int .i64 E2) at j1
  clear hb K1 k0 k1 R2
  go_wp2_with fail
  refine (SA2.out _ _ _ _ _ R3.out R4.out).mono ?_
  rintro e w10 ⟨rfl, hb⟩
  have B10 := Lib.hid (show Below w.heap.size w w10 from bt B9.out hb)
  replace R1 := Lib.hid (R1.out.mono hb)
  replace R3 := Lib.hid (R3.out.mono hb)
  clear hb K2 j0 j1 R4
  go_wp2_with fail
  refine (AC1.out _ _ _ R1.out).mono ?_
  rintro e w11 ⟨rfl, hb⟩
  have B11 := Lib.hid (show Below w.heap.size w w11 from bt B10.out hb)
  replace R3 := Lib.hid (R3.out.mono hb)
  clear hb R1
  go_wp2_with fail
  refine (AC2.out _ _ _ R3.out).mono ?_
  rintro e w12 ⟨rfl, hb⟩
  have B12 := Lib.hid (show Below w.heap.size w w12 from bt B11.out hb)
  clear hb R3
  go_wp2_with fail
  refine (T1.out _ B12.out).mono ?_
  rintro e w13 ⟨rfl, hb⟩
  have B13 := Lib.hid (show Below w.heap.size w w13 from bt B12.out hb)
  clear hb
  go_wp2_with fail
  refine (T2.out _ B13.out).mono ?_
  rintro e w14 ⟨rfl, hb⟩
  have B14 := Lib.hid (show Below w.heap.size w w14 from bt B13.out hb)
  clear hb
  go_wp2
  go_ret
  exact ⟨rfl, B14.out⟩
theorem keeps (a : Option Addr) (cap : Nat) (l : List Ac) (x wt m : Int) (w : World) (hp : AcA w a l) (hm : l.length ≤ 9223372036854775807) :
    Calls Try.prog 6 #[.slice a l.length cap, .int .i64 x, .int .i64 wt, .int .i64 m] w (Truly w) := by
  by_cases h : l.length ≤ 60 ∧ vA l = true
  · exact keeps_in a cap l x wt m w hp h.1 h.2
  · exact keeps_out a cap l x wt m w hp hm h
end Go.Proofs.Ytjmegfejnocegaa
