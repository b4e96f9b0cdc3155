import Derived.Test.YtcgdhankllphgaaRW
import Derived.BigQuiet
namespace Go.Proofs.Ytcgdhankllphgaa
set_option linter.unusedVariables false
set_option linter.unusedSimpArgs false
set_option linter.unusedSectionVars false
open Go.RowKit
theorem ltR_cR {x y : Rw} : ltR x y ↔ cR y.1 y.2.1 x < 0 := by rw [cR_neg]; rfl
set_option maxRecDepth 100000 in
set_option maxHeartbeats 4000000 in
theorem valid_any (cap len : Int) (a : Option Addr) (c : Nat) (l : List Rw) (w : World) (hp : RwA w a l) (hm : l.length ≤ 9223372036854775807) :
    Calls Try.prog 17 #[.agg #[.int .i64 cap, .int .i64 len, .slice a l.length c]] w fun e w' => Judged e (OkB cap len l) ∧ Below w.heap.size w w' := by
  have HP := Lib.hid hp
  have HH := Lib.hid (show headOk cap len l ↔ (0 ≤ cap ∧ cap ≤ 1073741824) ∧ (1 ≤ len ∧ len ≤ 3600000) ∧ l.length ≤ 10000 from Iff.rfl)
  have HO := Lib.hid (show OkB cap len l ↔ headOk cap len l ∧ ∀ k, k < l.length → stepOk cap l k from ⟨fun h => ⟨h.head, h.rows⟩, fun h => ⟨h.1, h.2⟩⟩)
  have HS := Lib.hid (fun (k : Nat) => show stepOk cap l k ↔ rowOk (l.getD k r0) ∧ (0 < k → ltR (l.getD (k - 1) r0) (l.getD k r0)) ∧ acc l (k + 1) ≤ cap from Iff.rfl)
  have HA := Lib.hid (fun (k : Nat) => show acc l (k + 1) = (if 0 < k ∧ (l.getD (k - 1) r0).1 < (l.getD k r0).1 then 0 else acc l k) + ((l.getD k r0).2.2.1 - (l.getD k r0).2.2.2) from rfl)
  have HB := Lib.hid (fun (k : Nat) => @acc_bd l cap k)
  obtain ⟨N, hN⟩ : ∃ N, l.length = N := ⟨_, rfl⟩
  have HE := Lib.hid hN
  rw [hN] at HH HO hm ⊢
  clear hp hN
  by_cases p1 : 0 ≤ cap ∧ cap ≤ 1073741824
  · have C1 := Lib.hid (fun W => within_yes p1 W)
    by_cases p2 : 1 ≤ len ∧ len ≤ 3600000
    · have C2 := Lib.hid (fun W => within_yes p2 W)
      by_cases p3 : N ≤ 10000
      · have HD := Lib.hid (HH.out.2 ⟨p1, p2, p3⟩)
        have t3 : decide ((10000 : Int) < (N : Int)) = false := decide_eq_false (by omega)
        have P1 := Lib.hid p1
        clear p2
        go_enter Try.func17, Try.ntmps17
        go_wp2_with fail
        refine (C1.out _).mono ?_
        rintro e wz ⟨rfl, rfl⟩
        go_wp2_with fail
        refine (C2.out _).mono ?_
        rintro e wz ⟨rfl, rfl⟩
        go_wp2
        go_loopw [25, 3, 4, 5] (fun u25 u3 _ _ wr => ∃ (k : Nat) (s : Int), k ≤ N ∧ u25 = .int .i64 k ∧ u3 = .int .i64 s ∧ Hid (acc l k = s) ∧ Hid (∀ j, j < k → stepOk cap l j) ∧ Hid (Blk wr w.heap.size 24 #[.int .i64 cap, .int .i64 len, .slice a N c]) ∧ Hid (Below w.heap.size w wr)) (fun u25 _ _ _ _ => N - (intOf u25).toNat)
        case atStart => exact ⟨0, 0, by omega, rfl, rfl, Lib.hid rfl, Lib.hid (fun j h => absurd h (by omega)), Lib.hid (Blk.new' w _ _ _ rfl rfl), Lib.hid (by (repeat' (first | (with_reducible exact Below.refl _ _) | (with_reducible assumption) | (with_reducible refine Below.alloc ?_ ?_ _) | (with_reducible refine Below.drew ?_) | (with_reducible refine below_dn ?_) | (with_reducible refine Below.setCell ?_ ?_ _) | (with_reducible exact Nat.le_refl _) | omega | (simp only [World.size_alloc, World.size_setCell, World.size_drew]; omega) | (simp; omega) | (simp; done))))⟩
        case round =>
          clear C1 C2
          obtain ⟨k, s, hk, rfl, rfl, HSum, HJ, KB, hbe⟩ := hrel
          have b0 : wr.cell? ⟨w.heap.size, 0, none⟩ = some (.int .i64 cap) := KB.out.cell 0
          have b2 : wr.cell? ⟨w.heap.size, 2, none⟩ = some (.slice a N c) := KB.out.cell 2
          by_cases hlt : k < N
          · have sb := HB.out k P1.out.1 HJ.out
            rw [HSum.out] at sb
            obtain ⟨b, off, rfl, q0, q1, q2, q3⟩ := RwA.at_ (HP.out.mono hbe.out) (k := k) (by rw [HE.out]; exact hlt)
            have PRV := Lib.hid (show ∀ (j : Nat), j < N → ∀ X, Below w.heap.size w X → X.cell? ⟨b, off + j * 4, none⟩ = some (.int .i64 (l.getD j r0).1) ∧ X.cell? ⟨b, off + j * 4 + 1, none⟩ = some (.int .i64 (l.getD j r0).2.1) ∧ X.cell? ⟨b, off + j * 4 + 2, none⟩ = some (.int .i64 (l.getD j r0).2.2.1) ∧ X.cell? ⟨b, off + j * 4 + 3, none⟩ = some (.int .i64 (l.getD j r0).2.2.2) from fun j hj X hX => by
              obtain ⟨b', off', e, h⟩ := RwA.at_ (HP.out.mono hX) (k := j) (by rw [HE.out]; exact hj)
              injection e with e; injection e with e1 e2
              subst e1; subst e2
              exact h)
            have hs := HS.out k
            have ha := HA.out k
            rw [HSum.out] at ha
            obtain ⟨x, hx⟩ : ∃ y, l.getD k r0 = y := ⟨_, rfl⟩
            rw [hx] at q0 q1 q2 q3 hs ha
            obtain ⟨x1, x2, x3, x4⟩ := x
            simp only at q0 q1 q2 q3 hs ha
            have HX := Lib.hid hx
            have ST := Lib.hid hs
            have AC := Lib.hid ha
            have SB := Lib.hid sb
            have BAD := Lib.hid (show ¬ stepOk cap l k → ¬ OkB cap len l from fun h h2 => h ((HO.out.1 h2).2 k hlt))
            clear hx hs ha sb
            have k0 : (0 : Int) ≤ (k : Int) := by omega
            have kn : (k : Int) < (N : Int) := by omega
            obtain ⟨g, hg⟩ : ∃ g, wr.heap.size = g := ⟨_, rfl⟩
            have KX := Lib.hid (show Blk (wr.alloc (.cells #[.int .i64 x1, .int .i64 x2, .int .i64 x3, .int .i64 x4] 72)) g 72 #[.int .i64 x1, .int .i64 x2, .int .i64 x3, .int .i64 x4] from Blk.new' wr _ _ _ hg rfl)
            have KC := Lib.hid (KB.out.alloc (.cells #[.int .i64 x1, .int .i64 x2, .int .i64 x3, .int .i64 x4] 72))
            have BC := Lib.hid (hbe.out.alloc hbe.out.size (.cells #[.int .i64 x1, .int .i64 x2, .int .i64 x3, .int .i64 x4] 72))
            go_upto_region 8 with (fail)
            try rw [hg]
            generalize hwx : wr.alloc (.cells #[.int .i64 x1, .int .i64 x2, .int .i64 x3, .int .i64 x4] 72) = wx at KX KC BC ⊢
            clear hwx hg KB hbe b0 b2 q0 q1 q2 q3
            obtain ⟨d0, d1, d2, d3⟩ := four KX.out
            have b0 : wx.cell? ⟨w.heap.size, 0, none⟩ = some (.int .i64 cap) := KC.out.cell 0
            have b2 : wx.cell? ⟨w.heap.size, 2, none⟩ = some (.slice (some ⟨b, off, none⟩) N c) := KC.out.cell 2
            by_cases e1 : winOk x1
            · have R1 := Lib.hid (fun W => win_yes e1 W)
              by_cases e2 : gateOk x2
              · have R2 := Lib.hid (fun W => gate_yes e2 W)
                by_cases e3 : 0 ≤ x3 ∧ x3 ≤ 1099511627776
                · have R3 := Lib.hid (fun W => within_yes e3 W)
                  by_cases e4 : 0 ≤ x4 ∧ x4 ≤ x3
                  · have R4 := Lib.hid (fun W => within_yes e4 W)
                    have RO := Lib.hid (show rowOk (x1, x2, x3, x4) from ⟨e1, e2, e3, e4⟩)
                    have E3 := Lib.hid e3; have E4 := Lib.hid e4
                    clear e1 e2 e3 e4
                    go_wp2_with fail
                    refine (R1.out _).mono ?_
                    rintro e wz ⟨rfl, rfl⟩
                    go_wp2_with fail
                    refine (R2.out _).mono ?_
                    rintro e wz ⟨rfl, rfl⟩
                    go_wp2_with fail
                    refine (R3.out _).mono ?_
                    rintro e wz ⟨rfl, rfl⟩
                    go_wp2_with fail
                    refine (R4.out _).mono ?_
                    rintro e wz ⟨rfl, rfl⟩
                    clear R1 R2 R3 R4
                    by_cases hk0 : k = 0
                    · subst hk0
                      have AE : acc l (0 + 1) = s + (x3 - x4) := by rw [AC.out, if_neg (by omega)]
                      have OR := Lib.hid (show 0 < 0 → ltR (l.getD (0 - 1) r0) (x1, x2, x3, x4) from fun h => absurd h (by omega))
                      clear k0 kn
                      go_wp2
                      go_quiet (fail)
                      have hq : ∀ q, (World.drewN wx q) = (World.drewN wx q) := fun _ => rfl
                      generalize hwy : World.drewN wx _ = wy
                      have KY := Lib.hid (show Blk wy g 72 #[.int .i64 x1, .int .i64 x2, .int .i64 x3, .int .i64 x4] by rw [← hwy]; exact KX.out.drewN _)
                      have KZ := Lib.hid (show Blk wy w.heap.size 24 #[.int .i64 cap, .int .i64 len, .slice (some ⟨b, off, none⟩) N c] by rw [← hwy]; exact KC.out.drewN _)
                      have BZ := Lib.hid (show Below w.heap.size w wy by rw [← hwy]; exact below_dn BC.out)
                      clear hwy d0 d1 d2 d3 b0 b2 KX KC BC hq
                      obtain ⟨d0, d1, d2, d3⟩ := four KY.out
                      have b0 : wy.cell? ⟨w.heap.size, 0, none⟩ = some (.int .i64 cap) := KZ.out.cell 0
                      have b2 : wy.cell? ⟨w.heap.size, 2, none⟩ = some (.slice (some ⟨b, off, none⟩) N c) := KZ.out.cell 2
                      go_wp2
                      go_quiet (fail)
                      generalize hwv : World.drewN wy _ = wv
                      replace KY := Lib.hid (show Blk wv g 72 #[.int .i64 x1, .int .i64 x2, .int .i64 x3, .int .i64 x4] by rw [← hwv]; exact KY.out.drewN _)
                      replace KZ := Lib.hid (show Blk wv w.heap.size 24 #[.int .i64 cap, .int .i64 len, .slice (some ⟨b, off, none⟩) N c] by rw [← hwv]; exact KZ.out.drewN _)
                      replace BZ := Lib.hid (show Below w.heap.size w wv by rw [← hwv]; exact below_dn BZ.out)
                      clear hwv d0 d1 d2 d3 b0 b2
                      obtain ⟨d0, d1, d2, d3⟩ := four KY.out
                      have b0 : wv.cell? ⟨w.heap.size, 0, none⟩ = some (.int .i64 cap) := KZ.out.cell 0
                      have b2 : wv.cell? ⟨w.heap.size, 2, none⟩ = some (.slice (some ⟨b, off, none⟩) N c) := KZ.out.cell 2
                      have wr1 : IntKind.i64.wrap (x3 - x4) = x3 - x4 := by have := E3.out; have := E4.out; rw [IntKind.wrap_i64]; omega
                      obtain ⟨dd, hdd⟩ : ∃ y, x3 - x4 = y := ⟨_, rfl⟩
                      have dd0 : 0 ≤ dd ∧ dd ≤ 1099511627776 := by have := E3.out; have := E4.out; omega
                      rw [hdd] at wr1 AE
                      have wr2 : IntKind.i64.wrap (s + dd) = s + dd := by have := SB.out; have := P1.out; rw [IntKind.wrap_i64]; omega
                      obtain ⟨t, ht⟩ : ∃ y, s + dd = y := ⟨_, rfl⟩
                      rw [ht] at wr2 AE
                      have AE2 := Lib.hid AE
                      have tb : 0 ≤ t ∧ t ≤ 9000000000000000000 := by have := SB.out; have := P1.out; omega
                      clear AE
                      by_cases ht1 : cap < t
                      · have tt : decide (cap < t) = true := decide_eq_true ht1
                        have NO := Lib.hid (show ¬ stepOk cap l 0 from fun h => by have h2 := (ST.out.1 h).2.2; rw [AE2.out] at h2; omega)
                        clear ht1
                        go_wp2
                        go_ret
                        exact ⟨⟨false, rfl, (fun h => by cases h), fun h => absurd h (BAD.out NO.out)⟩, BZ.out⟩
                      · have tt : decide (cap < t) = false := decide_eq_false ht1
                        have YES := Lib.hid (show stepOk cap l 0 from ST.out.2 ⟨RO.out, OR.out, by rw [AE2.out]; omega⟩)
                        clear ht1
                        go_wp2
                        go_roundw
                        case rel =>
                          refine ⟨1, t, by omega, by go_num, rfl, Lib.hid AE2.out, Lib.hid (fun j hj => ?_), KZ, BZ⟩
                          rcases Nat.lt_or_ge j 0 with h | h
                          · exact HJ.out j h
                          · rw [show j = 0 by omega]; exact YES.out
                        case measure => simp [intOf]; omega
                    · have t0 : decide (0 < k) = true := decide_eq_true (by omega)
                      have t0' : 0 < k := by omega
                      obtain ⟨km, hkm⟩ : ∃ km, k = km + 1 := ⟨k - 1, by omega⟩
                      have wk : IntKind.i64.wrap ((k : Int) - 1) = (km : Int) := by rw [IntKind.wrap_i64]; omega
                      have wk2 : (k : Int) - 1 = (km : Int) := by omega
                      have wk3 : IntKind.i64.wrap (km : Int) = (km : Int) := by rw [IntKind.wrap_i64]; omega
                      have wk4 : (-1 : Int) + (k : Int) = (km : Int) := by omega
                      have pc := PRV.out km (by omega) (World.drew wx) (Below.drew BC.out)
                      have HK1 := Lib.hid (show k - 1 = km by omega)
                      obtain ⟨y, hy⟩ : ∃ y, l.getD km r0 = y := ⟨_, rfl⟩
                      rw [hy] at pc
                      have HY := Lib.hid hy
                      have CP := Lib.hid (fun W => cmpR_any y (x1, x2, x3, x4) W)
                      have LTI := Lib.hid (@ltR_cR y (x1, x2, x3, x4))
                      obtain ⟨y1, y2, y3, y4⟩ := y
                      simp only [encR] at pc CP LTI
                      obtain ⟨r, hr⟩ : ∃ r, cR x1 x2 (y1, y2, y3, y4) = r := ⟨_, rfl⟩
                      rw [hr] at CP LTI
                      obtain ⟨m0, m1, m2, m3⟩ := pc
                      have M0 := Lib.hid m0; have M1 := Lib.hid m1; have M2 := Lib.hid m2; have M3 := Lib.hid m3
                      replace KX := Lib.hid KX.out.drew
                      replace KC := Lib.hid KC.out.drew
                      replace BC := Lib.hid (Below.drew BC.out)
                      have mk0 : (0 : Int) ≤ (km : Int) := by omega
                      have mkn : (km : Int) < (N : Int) := by omega
                      have HKM := Lib.hid hkm
                      have BFR := Lib.hid (show b < wx.heap.size from block_lt_of_cell (w := wx.drew) m0)
                      clear hy hr m0 m1 m2 m3 hkm d0 d1 d2 d3 b0 b2
                      go_wp2_with fail
                      go_region_held3 (fun X => X.cell? ⟨w.heap.size, 2, none⟩ = some (.slice (some ⟨b, off, none⟩) N c) ∧ (X.cell? ⟨g, 0, none⟩ = some (.int .i64 x1) ∧ X.cell? ⟨g, 1, none⟩ = some (.int .i64 x2) ∧ X.cell? ⟨g, 2, none⟩ = some (.int .i64 x3) ∧ X.cell? ⟨g, 3, none⟩ = some (.int .i64 x4)) ∧ X.cell? ⟨b, off + km * 4, none⟩ = some (.int .i64 y1) ∧ X.cell? ⟨b, off + km * 4 + 1, none⟩ = some (.int .i64 y2) ∧ X.cell? ⟨b, off + km * 4 + 2, none⟩ = some (.int .i64 y3) ∧ X.cell? ⟨b, off + km * 4 + 3, none⟩ = some (.int .i64 y4)) (first | exact ⟨KC.out.cell 2, four KX.out, M0.out, M1.out, M2.out, M3.out⟩) (first | (go_at_call 60; with_reducible refine (CP.out _).mono ?_; rintro e wy ⟨rfl, hb⟩; replace KX := Lib.hid (KX.out.below hb KX.out.lt); replace KC := Lib.hid (KC.out.below hb KC.out.lt); replace BC := Lib.hid (bt BC.out hb); replace M0 := Lib.hid (keep M0.out hb); replace M1 := Lib.hid (keep M1.out hb); replace M2 := Lib.hid (keep M2.out hb); replace M3 := Lib.hid (keep M3.out hb); clear hb))
                      by_cases hr0 : r < 0
                      · have t1 : decide (0 ≤ r) = false := decide_eq_false (by omega)
                        have t1a : decide (r < 0) = true := decide_eq_true hr0
                        have t1b : ¬ 0 ≤ r := by omega
                        have OR := Lib.hid (show 0 < k → ltR (l.getD (k - 1) r0) (x1, x2, x3, x4) from fun _ => by rw [HK1.out, HY.out]; exact LTI.out.2 hr0)
                        have m0 := M0.out
                        have KY := KX
                        have KZ := KC
                        obtain ⟨d0, d1, d2, d3⟩ := four KY.out
                        have b0 : wy.cell? ⟨w.heap.size, 0, none⟩ = some (.int .i64 cap) := KZ.out.cell 0
                        have b2 : wy.cell? ⟨w.heap.size, 2, none⟩ = some (.slice (some ⟨b, off, none⟩) N c) := KZ.out.cell 2
                        by_cases hlt2 : y1 < x1
                        · have t2 : decide (y1 < x1) = true := decide_eq_true hlt2
                          have AE : acc l (k + 1) = x3 - x4 := by rw [AC.out, HK1.out, HY.out, if_pos ⟨by omega, hlt2⟩, Int.zero_add]
                          clear hlt2
                          go_wp2_with fail
                          go_region_held3 (fun X => X.cell? ⟨w.heap.size, 2, none⟩ = some (.slice (some ⟨b, off, none⟩) N c) ∧ X.cell? ⟨g, 0, none⟩ = some (.int .i64 x1) ∧ X.cell? ⟨b, off + km * 4, none⟩ = some (.int .i64 y1)) (first | exact ⟨b2, d0, m0⟩) (fail)
                          have BZ := Lib.hid (Below.drew BC.out)
                          replace KY := Lib.hid KY.out.drew
                          replace KZ := Lib.hid KZ.out.drew
                          clear d0 d1 d2 d3 b0 b2 m0 t1 t1a t1b hr0
                          obtain ⟨d0, d1, d2, d3⟩ := four KY.out
                          have b0 : (World.drew wy).cell? ⟨w.heap.size, 0, none⟩ = some (.int .i64 cap) := KZ.out.cell 0
                          have b2 : (World.drew wy).cell? ⟨w.heap.size, 2, none⟩ = some (.slice (some ⟨b, off, none⟩) N c) := KZ.out.cell 2
                          have wr1 : IntKind.i64.wrap (x3 - x4) = x3 - x4 := by have := E3.out; have := E4.out; rw [IntKind.wrap_i64]; omega
                          obtain ⟨dd, hdd⟩ : ∃ y, x3 - x4 = y := ⟨_, rfl⟩
                          have dd0 : 0 ≤ dd ∧ dd ≤ 1099511627776 := by have := E3.out; have := E4.out; omega
                          rw [hdd] at wr1 AE
                          have wr2 : IntKind.i64.wrap dd = dd := by rw [IntKind.wrap_i64]; omega
                          have AE2 := Lib.hid AE
                          clear AE
                          by_cases ht1 : cap < dd
                          · have tt : decide (cap < dd) = true := decide_eq_true ht1
                            have NO := Lib.hid (show ¬ stepOk cap l k from fun h => by have h2 := (ST.out.1 h).2.2; rw [AE2.out] at h2; omega)
                            clear ht1
                            go_wp2
                            go_ret
                            exact ⟨⟨false, rfl, (fun h => by cases h), fun h => absurd h (BAD.out NO.out)⟩, BZ.out⟩
                          · have tt : decide (cap < dd) = false := decide_eq_false ht1
                            have YES := Lib.hid (show stepOk cap l k from ST.out.2 ⟨RO.out, OR.out, by rw [AE2.out]; omega⟩)
                            clear ht1
                            go_wp2
                            go_roundw
                            case rel =>
                              refine ⟨k + 1, dd, by omega, by go_num, rfl, Lib.hid AE2.out, Lib.hid (fun j hj => ?_), KZ, BZ⟩
                              rcases Nat.lt_or_ge j k with h | h
                              · exact HJ.out j h
                              · rw [show j = k by omega]; exact YES.out
                            case measure => simp [intOf]; omega
                        · have t2 : decide (y1 < x1) = false := decide_eq_false hlt2
                          have AE : acc l (k + 1) = s + (x3 - x4) := by rw [AC.out, HK1.out, HY.out, if_neg (fun h => hlt2 h.2)]
                          clear hlt2
                          go_wp2_with fail
                          go_region_held3 (fun X => X.cell? ⟨w.heap.size, 2, none⟩ = some (.slice (some ⟨b, off, none⟩) N c) ∧ X.cell? ⟨g, 0, none⟩ = some (.int .i64 x1) ∧ X.cell? ⟨b, off + km * 4, none⟩ = some (.int .i64 y1)) (first | exact ⟨b2, d0, m0⟩) (fail)
                          have BZ := Lib.hid (Below.drew BC.out)
                          replace KY := Lib.hid KY.out.drew
                          replace KZ := Lib.hid KZ.out.drew
                          clear d0 d1 d2 d3 b0 b2 m0 t1 t1a t1b hr0
                          obtain ⟨d0, d1, d2, d3⟩ := four KY.out
                          have b0 : (World.drew wy).cell? ⟨w.heap.size, 0, none⟩ = some (.int .i64 cap) := KZ.out.cell 0
                          have b2 : (World.drew wy).cell? ⟨w.heap.size, 2, none⟩ = some (.slice (some ⟨b, off, none⟩) N c) := KZ.out.cell 2
                          have wr1 : IntKind.i64.wrap (x3 - x4) = x3 - x4 := by have := E3.out; have := E4.out; rw [IntKind.wrap_i64]; omega
                          obtain ⟨dd, hdd⟩ : ∃ y, x3 - x4 = y := ⟨_, rfl⟩
                          have dd0 : 0 ≤ dd ∧ dd ≤ 1099511627776 := by have := E3.out; have := E4.out; omega
                          rw [hdd] at wr1 AE
                          have wr2 : IntKind.i64.wrap (s + dd) = s + dd := by have := SB.out; have := P1.out; rw [IntKind.wrap_i64]; omega
                          obtain ⟨t, ht⟩ : ∃ y, s + dd = y := ⟨_, rfl⟩
                          rw [ht] at wr2 AE
                          have AE2 := Lib.hid AE
                          have tb : 0 ≤ t ∧ t ≤ 9000000000000000000 := by have := SB.out; have := P1.out; omega
                          clear AE
                          by_cases ht1 : cap < t
                          · have tt : decide (cap < t) = true := decide_eq_true ht1
                            have NO := Lib.hid (show ¬ stepOk cap l k from fun h => by have h2 := (ST.out.1 h).2.2; rw [AE2.out] at h2; omega)
                            clear ht1
                            go_wp2
                            go_ret
                            exact ⟨⟨false, rfl, (fun h => by cases h), fun h => absurd h (BAD.out NO.out)⟩, BZ.out⟩
                          · have tt : decide (cap < t) = false := decide_eq_false ht1
                            have YES := Lib.hid (show stepOk cap l k from ST.out.2 ⟨RO.out, OR.out, by rw [AE2.out]; omega⟩)
                            clear ht1
                            go_wp2
                            go_roundw
                            case rel =>
                              refine ⟨k + 1, t, by omega, by go_num, rfl, Lib.hid AE2.out, Lib.hid (fun j hj => ?_), KZ, BZ⟩
                              rcases Nat.lt_or_ge j k with h | h
                              · exact HJ.out j h
                              · rw [show j = k by omega]; exact YES.out
                            case measure => simp [intOf]; omega
                      · have t1 : decide (0 ≤ r) = true := decide_eq_true (by omega)
                        have t1a : decide (r < 0) = false := decide_eq_false hr0
                        have t1b : 0 ≤ r := by omega
                        have NO := Lib.hid (show ¬ stepOk cap l k from fun h => by
                          have h2 := (ST.out.1 h).2.1 (by have := HKM.out; omega)
                          rw [HK1.out, HY.out] at h2
                          exact hr0 (LTI.out.1 h2))
                        clear hr0
                        go_wp2
                        go_ret
                        exact ⟨⟨false, rfl, (fun h => by cases h), fun h => absurd h (BAD.out NO.out)⟩, BC.out⟩
                  · have R4 := Lib.hid (fun W => within_no e4 W)
                    go_wp2_with fail
                    refine (R1.out _).mono ?_
                    rintro e wz ⟨rfl, rfl⟩
                    go_wp2_with fail
                    refine (R2.out _).mono ?_
                    rintro e wz ⟨rfl, rfl⟩
                    go_wp2_with fail
                    refine (R3.out _).mono ?_
                    rintro e wz ⟨rfl, rfl⟩
                    go_wp2_with fail
                    refine (R4.out _).mono ?_
                    rintro e wz ⟨rfl, rfl⟩
                    go_wp2
                    go_ret
                    exact ⟨⟨false, rfl, (fun h => by cases h), fun h => absurd h (BAD.out (fun h => absurd (ST.out.1 h) (by unfold rowOk; simp only; rintro ⟨⟨h1, h2, h3, h4⟩, -⟩; exact e4 h4)))⟩, BC.out⟩
                · have R3 := Lib.hid (fun W => within_no e3 W)
                  go_wp2_with fail
                  refine (R1.out _).mono ?_
                  rintro e wz ⟨rfl, rfl⟩
                  go_wp2_with fail
                  refine (R2.out _).mono ?_
                  rintro e wz ⟨rfl, rfl⟩
                  go_wp2_with fail
                  refine (R3.out _).mono ?_
                  rintro e wz ⟨rfl, rfl⟩
                  go_wp2
                  go_ret
                  exact ⟨⟨false, rfl, (fun h => by cases h), fun h => absurd h (BAD.out (fun h => absurd (ST.out.1 h) (by unfold rowOk; simp only; rintro ⟨⟨h1, h2, h3, h4⟩, -⟩; exact e3 h3)))⟩, BC.out⟩
              · have R2 := Lib.hid (fun W => gate_no e2 W)
                go_wp2_with fail
                refine (R1.out _).mono ?_
                rintro e wz ⟨rfl, rfl⟩
                go_wp2_with fail
                refine (R2.out _).mono ?_
                rintro e wz ⟨rfl, rfl⟩
                go_wp2
                go_ret
                exact ⟨⟨false, rfl, (fun h => by cases h), fun h => absurd h (BAD.out (fun h => absurd (ST.out.1 h) (by unfold rowOk; simp only; rintro ⟨⟨h1, h2, h3, h4⟩, -⟩; exact e2 h2)))⟩, BC.out⟩
            · have R1 := Lib.hid (fun W => win_no e1 W)
              go_wp2_with fail
              refine (R1.out _).mono ?_
              rintro e wz ⟨rfl, rfl⟩
              go_wp2
              go_ret
              exact ⟨⟨false, rfl, (fun h => by cases h), fun h => absurd h (BAD.out (fun h => absurd (ST.out.1 h) (by unfold rowOk; simp only; rintro ⟨⟨h1, h2, h3, h4⟩, -⟩; exact e1 h1)))⟩, BC.out⟩
          · have hkN : k = N := by omega
            have OKK := Lib.hid (HO.out.2 ⟨HD.out, fun j hj => HJ.out j (by omega)⟩)
            clear hkN
            go_wp2
            go_ret
            exact ⟨⟨true, rfl, fun _ => OKK.out, fun _ => rfl⟩, hbe.out⟩
      · have t3 : decide ((10000 : Int) < (N : Int)) = true := decide_eq_true (by omega)
        go_enter Try.func17, Try.ntmps17
        go_wp2_with fail
        refine (C1.out _).mono ?_
        rintro e wz ⟨rfl, rfl⟩
        go_wp2_with fail
        refine (C2.out _).mono ?_
        rintro e wz ⟨rfl, rfl⟩
        go_wp2
        go_ret
        exact ⟨⟨false, rfl, (fun h => by cases h), fun h => absurd (HH.out.1 (HO.out.1 h).1) (fun h => absurd h.2.2 p3)⟩, by (repeat' (first | (with_reducible exact Below.refl _ _) | (with_reducible assumption) | (with_reducible refine Below.alloc ?_ ?_ _) | (with_reducible refine Below.drew ?_) | (with_reducible refine below_dn ?_) | (with_reducible refine Below.setCell ?_ ?_ _) | (with_reducible exact Nat.le_refl _) | omega | (simp only [World.size_alloc, World.size_setCell, World.size_drew]; omega) | (simp; omega) | (simp; done)))⟩
    · have C2 := Lib.hid (fun W => within_no p2 W)
      go_enter Try.func17, Try.ntmps17
      go_wp2_with fail
      refine (C1.out _).mono ?_
      rintro e wz ⟨rfl, rfl⟩
      go_wp2_with fail
      refine (C2.out _).mono ?_
      rintro e wz ⟨rfl, rfl⟩
      go_wp2
      go_ret
      exact ⟨⟨false, rfl, (fun h => by cases h), fun h => absurd (HH.out.1 (HO.out.1 h).1) (fun h => absurd h.2.1 p2)⟩, by (repeat' (first | (with_reducible exact Below.refl _ _) | (with_reducible assumption) | (with_reducible refine Below.alloc ?_ ?_ _) | (with_reducible refine Below.drew ?_) | (with_reducible refine below_dn ?_) | (with_reducible refine Below.setCell ?_ ?_ _) | (with_reducible exact Nat.le_refl _) | omega | (simp only [World.size_alloc, World.size_setCell, World.size_drew]; omega) | (simp; omega) | (simp; done)))⟩
  · have C1 := Lib.hid (fun W => within_no p1 W)
    go_enter Try.func17, Try.ntmps17
    go_wp2_with fail
    refine (C1.out _).mono ?_
    rintro e wz ⟨rfl, rfl⟩
    go_wp2
    go_ret
    exact ⟨⟨false, rfl, (fun h => by cases h), fun h => absurd (HH.out.1 (HO.out.1 h).1) (fun h => absurd h.1 p1)⟩, by (repeat' (first | (with_reducible exact Below.refl _ _) | (with_reducible assumption) | (with_reducible refine Below.alloc ?_ ?_ _) | (with_reducible refine Below.drew ?_) | (with_reducible refine below_dn ?_) | (with_reducible refine Below.setCell ?_ ?_ _) | (with_reducible exact Nat.le_refl _) | omega | (simp only [World.size_alloc, World.size_setCell, World.size_drew]; omega) | (simp; omega) | (simp; done)))⟩
end Go.Proofs.Ytcgdhankllphgaa
