/- Contracts: ValidBank of the reference. -/
import Derived.Test.YtcgdhankllphgaaV
namespace Go.Proofs.Ytcgdhankllphgaa
set_option linter.unusedVariables false
set_option linter.unusedSimpArgs false
open Go.RowKit
set_option maxRecDepth 100000 in
set_option maxHeartbeats 4000000 in
theorem validref_any (cap len : Int) (a : Option Addr) (c : Nat) (l : List Rw) (w : World) (hp : RwA w a l) (hm : l.length ≤ 9223372036854775807) :
    Calls Try.prog 18 #[.agg #[.int .i64 cap, .int .i64 len, .slice a l.length c]] w fun e w' => Judged e (OkB cap len l) ∧ Below w.heap.size w w' := by
  have HP := Lib.hid hp
  have HH := Lib.hid (show headOk cap len l ↔ (0 ≤ cap ∧ cap ≤ 1073741824) ∧ (1 ≤ len ∧ len ≤ 3600000) ∧ l.length ≤ 10000 from Iff.rfl)
  have HO := Lib.hid (show OkB cap len l ↔ headOk cap len l ∧ ∀ k, k < l.length → stepOk cap l k from ⟨fun h => ⟨h.head, h.rows⟩, fun h => ⟨h.1, h.2⟩⟩)
  have HS := Lib.hid (fun (k : Nat) => show stepOk cap l k ↔ rowOk (l.getD k r0) ∧ (0 < k → ltR (l.getD (k - 1) r0) (l.getD k r0)) ∧ acc l (k + 1) ≤ cap from Iff.rfl)
  have HA := Lib.hid (fun (k : Nat) => show acc l (k + 1) = (if 0 < k ∧ (l.getD (k - 1) r0).1 < (l.getD k r0).1 then 0 else acc l k) + ((l.getD k r0).2.2.1 - (l.getD k r0).2.2.2) from rfl)
  have HB := Lib.hid (fun (k : Nat) => @acc_bd l cap k)
  obtain ⟨N, hN⟩ : ∃ N, l.length = N := ⟨_, rfl⟩
  have HE := Lib.hid hN
  rw [hN] at HH HO hm ⊢
  clear hp hN
  by_cases p1a : 0 ≤ cap
  · have t1a : decide (cap < 0) = false := decide_eq_false (by omega)
    by_cases p1b : cap ≤ 1073741824
    · have t1b : decide (1073741824 < cap) = false := decide_eq_false (by omega)
      by_cases p2a : 1 ≤ len
      · have t2a : decide (len < 1) = false := decide_eq_false (by omega)
        by_cases p2b : len ≤ 3600000
        · have t2b : decide (3600000 < len) = false := decide_eq_false (by omega)
          by_cases p3 : N ≤ 10000
          · have t3 : decide ((10000 : Int) < (N : Int)) = false := decide_eq_false (by omega)
            have HD := Lib.hid (HH.out.2 ⟨⟨p1a, p1b⟩, ⟨p2a, p2b⟩, p3⟩)
            have P1 := Lib.hid (And.intro p1a p1b)
            go_enter Try.func18, Try.ntmps18
            go_wp2
            go_loopw [4, 3, 5, 6] (fun u25 u3 _ _ wr => ∃ (k : Nat) (s : Int), k ≤ N ∧ u25 = .int .i64 k ∧ u3 = .int .i64 s ∧ Hid (acc l k = s) ∧ Hid (∀ j, j < k → stepOk cap l j) ∧ Hid (Blk wr w.heap.size 24 #[.int .i64 cap, .int .i64 len, .slice a N c]) ∧ Hid (Below w.heap.size w wr)) (fun u25 _ _ _ _ => N - (intOf u25).toNat)
            case atStart => exact ⟨0, 0, by omega, rfl, rfl, Lib.hid rfl, Lib.hid (fun j h => absurd h (by omega)), Lib.hid (Blk.new' w _ _ _ rfl rfl), Lib.hid (by (repeat' (first | (with_reducible exact Below.refl _ _) | (with_reducible assumption) | (with_reducible refine Below.alloc ?_ ?_ _) | (with_reducible refine Below.drew ?_) | (with_reducible refine below_dn ?_) | (with_reducible refine Below.setCell ?_ ?_ _) | (with_reducible exact Nat.le_refl _) | omega | (simp only [World.size_alloc, World.size_setCell, World.size_drew]; omega) | (simp; omega) | (simp; done))))⟩
            case round =>
              obtain ⟨k, s, hk, rfl, rfl, HSum, HJ, KB, hbe⟩ := hrel
              have b0 : wr.cell? ⟨w.heap.size, 0, none⟩ = some (.int .i64 cap) := KB.out.cell 0
              have b2 : wr.cell? ⟨w.heap.size, 2, none⟩ = some (.slice a N c) := KB.out.cell 2
              by_cases hlt : k < N
              · have sb := HB.out k P1.out.1 HJ.out
                rw [HSum.out] at sb
                obtain ⟨b, off, rfl, q0, q1, q2, q3⟩ := RwA.at_ (HP.out.mono hbe.out) (k := k) (by rw [HE.out]; exact hlt)
                have PRV := Lib.hid (show ∀ (j : Nat), j < N → ∀ X, Below w.heap.size w X → X.cell? ⟨b, off + j * 4, none⟩ = some (.int .i64 (l.getD j r0).1) ∧ X.cell? ⟨b, off + j * 4 + 1, none⟩ = some (.int .i64 (l.getD j r0).2.1) ∧ X.cell? ⟨b, off + j * 4 + 2, none⟩ = some (.int .i64 (l.getD j r0).2.2.1) ∧ X.cell? ⟨b, off + j * 4 + 3, none⟩ = some (.int .i64 (l.getD j r0).2.2.2) from fun j hj X hX => by
                  obtain ⟨b', off', e, h⟩ := RwA.at_ (HP.out.mono hX) (k := j) (by rw [HE.out]; exact hj)
                  injection e with e; injection e with e1 e2
                  subst e1; subst e2
                  exact h)
                have hs := HS.out k
                have ha := HA.out k
                rw [HSum.out] at ha
                obtain ⟨x, hx⟩ : ∃ y, l.getD k r0 = y := ⟨_, rfl⟩
                rw [hx] at q0 q1 q2 q3 hs ha
                obtain ⟨x1, x2, x3, x4⟩ := x
                simp only at q0 q1 q2 q3 hs ha
                have HX := Lib.hid hx
                have ST := Lib.hid hs
                have AC := Lib.hid ha
                have SB := Lib.hid sb
                have BAD := Lib.hid (show ¬ stepOk cap l k → ¬ OkB cap len l from fun h h2 => h ((HO.out.1 h2).2 k hlt))
                clear hx hs ha sb
                have k0 : (0 : Int) ≤ (k : Int) := by omega
                have kn : (k : Int) < (N : Int) := by omega
                obtain ⟨g, hg⟩ : ∃ g, wr.heap.size = g := ⟨_, rfl⟩
                have KX := Lib.hid (show Blk (wr.alloc (.cells #[.int .i64 x1, .int .i64 x2, .int .i64 x3, .int .i64 x4] 72)) g 72 #[.int .i64 x1, .int .i64 x2, .int .i64 x3, .int .i64 x4] from Blk.new' wr _ _ _ hg rfl)
                have KC := Lib.hid (KB.out.alloc (.cells #[.int .i64 x1, .int .i64 x2, .int .i64 x3, .int .i64 x4] 72))
                have BC := Lib.hid (hbe.out.alloc hbe.out.size (.cells #[.int .i64 x1, .int .i64 x2, .int .i64 x3, .int .i64 x4] 72))
                go_upto_region 8 with (fail)
                try rw [hg]
                generalize hwx : wr.alloc (.cells #[.int .i64 x1, .int .i64 x2, .int .i64 x3, .int .i64 x4] 72) = wx at KX KC BC ⊢
                clear hwx hg KB hbe b0 b2 q0 q1 q2 q3
                obtain ⟨d0, d1, d2, d3⟩ := four KX.out
                have b0 : wx.cell? ⟨w.heap.size, 0, none⟩ = some (.int .i64 cap) := KC.out.cell 0
                have b2 : wx.cell? ⟨w.heap.size, 2, none⟩ = some (.slice (some ⟨b, off, none⟩) N c) := KC.out.cell 2
                by_cases e1 : winOk x1
                · have R1 := Lib.hid (fun W => rwin_yes e1 W)
                  by_cases e2 : gateOk x2
                  · have R2 := Lib.hid (fun W => rgate_yes e2 W)
                    by_cases e3a : 0 ≤ x3
                    · have s1 : decide (x3 < 0) = false := decide_eq_false (by omega)
                      by_cases e3b : x3 ≤ 1099511627776
                      · have s2 : decide (1099511627776 < x3) = false := decide_eq_false (by omega)
                        by_cases e4a : 0 ≤ x4
                        · have s3 : decide (x4 < 0) = false := decide_eq_false (by omega)
                          by_cases e4b : x4 ≤ x3
                          · have s4 : decide (x3 < x4) = false := decide_eq_false (by omega)
                            have RO := Lib.hid (show rowOk (x1, x2, x3, x4) from ⟨e1, e2, ⟨e3a, e3b⟩, e4a, e4b⟩)
                            have E3 := Lib.hid (And.intro e3a e3b); have E4 := Lib.hid (And.intro e4a e4b)
                            clear e1 e2
                            go_wp2_with fail
                            refine (R1.out _).mono ?_
                            rintro e wz ⟨rfl, rfl⟩
                            go_wp2_with fail
                            refine (R2.out _).mono ?_
                            rintro e wz ⟨rfl, rfl⟩
                            clear R1 R2
                            go_upto_region 10 with (fail)
                            clear e3a e3b e4a e4b s1 s2 s3 s4
                            by_cases hk0 : k = 0
                            · subst hk0
                              have AE : acc l (0 + 1) = s + x3 - x4 := by rw [AC.out, if_neg (by omega)]; omega
                              have OR := Lib.hid (show 0 < 0 → ltR (l.getD (0 - 1) r0) (x1, x2, x3, x4) from fun h => absurd h (by omega))
                              clear k0 kn
                              have wr1 : IntKind.i64.wrap (s + x3) = s + x3 := by have := SB.out; have := P1.out; have := E3.out; rw [IntKind.wrap_i64]; omega
                              have wr2 : IntKind.i64.wrap (s + x3 - x4) = s + x3 - x4 := by have := SB.out; have := P1.out; have := E3.out; have := E4.out; rw [IntKind.wrap_i64]; omega
                              obtain ⟨u, hu⟩ : ∃ y, s + x3 = y := ⟨_, rfl⟩
                              have ub : 0 ≤ u ∧ u ≤ 9000000000000000 := by have := SB.out; have := P1.out; have := E3.out; omega
                              rw [hu] at wr1 wr2 AE
                              obtain ⟨t, ht⟩ : ∃ y, u - x4 = y := ⟨_, rfl⟩
                              rw [ht] at wr2 AE
                              have tb : -9000000000000000 ≤ t ∧ t ≤ 9000000000000000 := by have := E4.out; have := E3.out; omega
                              have AE2 := Lib.hid AE
                              clear AE
                              by_cases ht1 : cap < t
                              · have tt : decide (cap < t) = true := decide_eq_true ht1
                                have NO := Lib.hid (show ¬ stepOk cap l 0 from fun h => by have h2 := (ST.out.1 h).2.2; rw [AE2.out] at h2; omega)
                                clear ht1
                                go_wp2
                                go_ret
                                exact ⟨⟨false, rfl, (fun h => by cases h), fun h => absurd h (BAD.out NO.out)⟩, BC.out⟩
                              · have tt : decide (cap < t) = false := decide_eq_false ht1
                                have YES := Lib.hid (show stepOk cap l 0 from ST.out.2 ⟨RO.out, OR.out, by rw [AE2.out]; omega⟩)
                                clear ht1
                                go_wp2
                                go_roundw
                                case rel =>
                                  refine ⟨0 + 1, t, by omega, by go_num, rfl, Lib.hid AE2.out, Lib.hid (fun j hj => ?_), KC, BC⟩
                                  rcases Nat.lt_or_ge j 0 with h | h
                                  · exact HJ.out j h
                                  · rw [show j = 0 by omega]; exact YES.out
                                case measure => simp [intOf]; omega
                            · have t0 : decide (0 < k) = true := decide_eq_true (by omega)
                              have t0' : 0 < k := by omega
                              obtain ⟨km, hkm⟩ : ∃ km, k = km + 1 := ⟨k - 1, by omega⟩
                              have wk : IntKind.i64.wrap ((k : Int) - 1) = (km : Int) := by rw [IntKind.wrap_i64]; omega
                              have wk2 : (k : Int) - 1 = (km : Int) := by omega
                              have wk3 : IntKind.i64.wrap (km : Int) = (km : Int) := by rw [IntKind.wrap_i64]; omega
                              have wk4 : (-1 : Int) + (k : Int) = (km : Int) := by omega
                              have pc := PRV.out km (by omega) wx BC.out
                              have HK1 := Lib.hid (show k - 1 = km by omega)
                              obtain ⟨y, hy⟩ : ∃ y, l.getD km r0 = y := ⟨_, rfl⟩
                              rw [hy] at pc
                              have HY := Lib.hid hy
                              obtain ⟨y1, y2, y3, y4⟩ := y
                              simp only at pc
                              obtain ⟨m0, m1, m2, m3⟩ := pc
                              have mk0 : (0 : Int) ≤ (km : Int) := by omega
                              have mkn : (km : Int) < (N : Int) := by omega
                              have HKM := Lib.hid hkm
                              clear hy hkm
                              obtain ⟨g2, hg2⟩ : ∃ g2, wx.heap.size = g2 := ⟨_, rfl⟩
                              have KY := Lib.hid (show Blk (wx.alloc (.cells #[.int .i64 y1, .int .i64 y2, .int .i64 y3, .int .i64 y4] 72)) g2 72 #[.int .i64 y1, .int .i64 y2, .int .i64 y3, .int .i64 y4] from Blk.new' wx _ _ _ hg2 rfl)
                              have KX2 := Lib.hid (KX.out.alloc (.cells #[.int .i64 y1, .int .i64 y2, .int .i64 y3, .int .i64 y4] 72))
                              have KZ := Lib.hid (KC.out.alloc (.cells #[.int .i64 y1, .int .i64 y2, .int .i64 y3, .int .i64 y4] 72))
                              have BZ := Lib.hid (BC.out.alloc BC.out.size (.cells #[.int .i64 y1, .int .i64 y2, .int .i64 y3, .int .i64 y4] 72))
                              go_upto_region 12 with (fail)
                              try rw [hg2]
                              generalize hwy : wx.alloc (.cells #[.int .i64 y1, .int .i64 y2, .int .i64 y3, .int .i64 y4] 72) = wy at KY KX2 KZ BZ ⊢
                              clear hwy hg2 KX KC b0 b2 d0 d1 d2 d3 m0 m1 m2 m3
                              obtain ⟨d0, d1, d2, d3⟩ := four KX2.out
                              obtain ⟨m0, m1, m2, m3⟩ := four KY.out
                              have b0 : wy.cell? ⟨w.heap.size, 0, none⟩ = some (.int .i64 cap) := KZ.out.cell 0
                              have b2 : wy.cell? ⟨w.heap.size, 2, none⟩ = some (.slice (some ⟨b, off, none⟩) N c) := KZ.out.cell 2
                              clear wk wk2 wk3 wk4
                              by_cases e4c : x1 < y1
                              · have t1 : decide (x1 < y1) = true := decide_eq_true (by omega)
                                have NO := Lib.hid (show ¬ stepOk cap l k from fun h => by
                                  have h2 := (ST.out.1 h).2.1 (by have := HKM.out; omega)
                                  rw [HK1.out, HY.out] at h2
                                  unfold ltR at h2
                                  simp only at h2
                                  omega)
                                go_wp2
                                go_ret
                                exact ⟨⟨false, rfl, (fun h => by cases h), fun h => absurd h (BAD.out NO.out)⟩, BZ.out⟩
                              · have t1 : decide (x1 < y1) = false := decide_eq_false e4c
                                by_cases e5 : x1 = y1
                                · have t3 : (x1 == y1) = true := by simp [e5]
                                  have t3b : decide (x1 = y1) = true := decide_eq_true e5
                                  by_cases e6 : x2 ≤ y2
                                  · have t4 : decide (x2 ≤ y2) = true := decide_eq_true (by omega)
                                    have NO := Lib.hid (show ¬ stepOk cap l k from fun h => by
                                      have h2 := (ST.out.1 h).2.1 (by have := HKM.out; omega)
                                      rw [HK1.out, HY.out] at h2
                                      unfold ltR at h2
                                      simp only at h2
                                      omega)
                                    clear e6
                                    go_wp2
                                    go_ret
                                    exact ⟨⟨false, rfl, (fun h => by cases h), fun h => absurd h (BAD.out NO.out)⟩, BZ.out⟩
                                  · have t4 : decide (x2 ≤ y2) = false := decide_eq_false (by omega)
                                    have OR := Lib.hid (show 0 < k → ltR (l.getD (k - 1) r0) (x1, x2, x3, x4) from fun _ => by rw [HK1.out, HY.out]; unfold ltR; simp only; omega)
                                    have t5 : decide (y1 < x1) = false := decide_eq_false (by omega)
                                    have AE : acc l (k + 1) = s + x3 - x4 := by rw [AC.out, HK1.out, HY.out, if_neg (by simp only; omega)]; omega
                                    clear e6
                                    have wr1 : IntKind.i64.wrap (s + x3) = s + x3 := by have := SB.out; have := P1.out; have := E3.out; rw [IntKind.wrap_i64]; omega
                                    have wr2 : IntKind.i64.wrap (s + x3 - x4) = s + x3 - x4 := by have := SB.out; have := P1.out; have := E3.out; have := E4.out; rw [IntKind.wrap_i64]; omega
                                    obtain ⟨u, hu⟩ : ∃ y, s + x3 = y := ⟨_, rfl⟩
                                    have ub : 0 ≤ u ∧ u ≤ 9000000000000000 := by have := SB.out; have := P1.out; have := E3.out; omega
                                    rw [hu] at wr1 wr2 AE
                                    obtain ⟨t, ht⟩ : ∃ y, u - x4 = y := ⟨_, rfl⟩
                                    rw [ht] at wr2 AE
                                    have tb : -9000000000000000 ≤ t ∧ t ≤ 9000000000000000 := by have := E4.out; have := E3.out; omega
                                    have AE2 := Lib.hid AE
                                    clear AE
                                    by_cases ht1 : cap < t
                                    · have tt : decide (cap < t) = true := decide_eq_true ht1
                                      have NO := Lib.hid (show ¬ stepOk cap l k from fun h => by have h2 := (ST.out.1 h).2.2; rw [AE2.out] at h2; omega)
                                      clear ht1
                                      go_wp2
                                      go_ret
                                      exact ⟨⟨false, rfl, (fun h => by cases h), fun h => absurd h (BAD.out NO.out)⟩, BZ.out⟩
                                    · have tt : decide (cap < t) = false := decide_eq_false ht1
                                      have YES := Lib.hid (show stepOk cap l k from ST.out.2 ⟨RO.out, OR.out, by rw [AE2.out]; omega⟩)
                                      clear ht1
                                      go_wp2
                                      go_roundw
                                      case rel =>
                                        refine ⟨k + 1, t, by omega, by go_num, rfl, Lib.hid AE2.out, Lib.hid (fun j hj => ?_), KZ, BZ⟩
                                        rcases Nat.lt_or_ge j k with h | h
                                        · exact HJ.out j h
                                        · rw [show j = k by omega]; exact YES.out
                                      case measure => simp [intOf]; omega
                                · have t3 : (x1 == y1) = false := by simp [e5]
                                  have t3b : decide (x1 = y1) = false := decide_eq_false e5
                                  have t2 : decide (y1 < x1) = true := decide_eq_true (by omega)
                                  have OR := Lib.hid (show 0 < k → ltR (l.getD (k - 1) r0) (x1, x2, x3, x4) from fun _ => by rw [HK1.out, HY.out]; unfold ltR; simp only; omega)
                                  have AE : acc l (k + 1) = x3 - x4 := by rw [AC.out, HK1.out, HY.out, if_pos ⟨by have := HKM.out; omega, by simp only; omega⟩, Int.zero_add]
                                  clear e5 e4c
                                  have wr1 : IntKind.i64.wrap x3 = x3 := by have := E3.out; rw [IntKind.wrap_i64]; omega
                                  have wr2 : IntKind.i64.wrap (x3 - x4) = x3 - x4 := by have := E3.out; have := E4.out; rw [IntKind.wrap_i64]; omega
                                  have x3b := E3.out
                                  obtain ⟨t, ht⟩ : ∃ y, x3 - x4 = y := ⟨_, rfl⟩
                                  rw [ht] at wr2 AE
                                  have tb : -9000000000000000 ≤ t ∧ t ≤ 9000000000000000 := by have := E4.out; have := E3.out; omega
                                  have AE2 := Lib.hid AE
                                  clear AE
                                  by_cases ht1 : cap < t
                                  · have tt : decide (cap < t) = true := decide_eq_true ht1
                                    have NO := Lib.hid (show ¬ stepOk cap l k from fun h => by have h2 := (ST.out.1 h).2.2; rw [AE2.out] at h2; omega)
                                    clear ht1
                                    go_wp2
                                    go_ret
                                    exact ⟨⟨false, rfl, (fun h => by cases h), fun h => absurd h (BAD.out NO.out)⟩, BZ.out⟩
                                  · have tt : decide (cap < t) = false := decide_eq_false ht1
                                    have YES := Lib.hid (show stepOk cap l k from ST.out.2 ⟨RO.out, OR.out, by rw [AE2.out]; omega⟩)
                                    clear ht1
                                    go_wp2
                                    go_roundw
                                    case rel =>
                                      refine ⟨k + 1, t, by omega, by go_num, rfl, Lib.hid AE2.out, Lib.hid (fun j hj => ?_), KZ, BZ⟩
                                      rcases Nat.lt_or_ge j k with h | h
                                      · exact HJ.out j h
                                      · rw [show j = k by omega]; exact YES.out
                                    case measure => simp [intOf]; omega
                          · have s4 : decide (x3 < x4) = true := decide_eq_true (by omega)
                            go_wp2_with fail
                            refine (R1.out _).mono ?_
                            rintro e wz ⟨rfl, rfl⟩
                            go_wp2_with fail
                            refine (R2.out _).mono ?_
                            rintro e wz ⟨rfl, rfl⟩
                            go_wp2
                            go_ret
                            exact ⟨⟨false, rfl, (fun h => by cases h), fun h => absurd h (BAD.out (fun h => absurd (ST.out.1 h) (by unfold rowOk; simp only; rintro ⟨⟨h1, h2, h3, h4⟩, -⟩; omega)))⟩, BC.out⟩
                        · have s3 : decide (x4 < 0) = true := decide_eq_true (by omega)
                          go_wp2_with fail
                          refine (R1.out _).mono ?_
                          rintro e wz ⟨rfl, rfl⟩
                          go_wp2_with fail
                          refine (R2.out _).mono ?_
                          rintro e wz ⟨rfl, rfl⟩
                          go_wp2
                          go_ret
                          exact ⟨⟨false, rfl, (fun h => by cases h), fun h => absurd h (BAD.out (fun h => absurd (ST.out.1 h) (by unfold rowOk; simp only; rintro ⟨⟨h1, h2, h3, h4⟩, -⟩; omega)))⟩, BC.out⟩
                      · have s2 : decide (1099511627776 < x3) = true := decide_eq_true (by omega)
                        go_wp2_with fail
                        refine (R1.out _).mono ?_
                        rintro e wz ⟨rfl, rfl⟩
                        go_wp2_with fail
                        refine (R2.out _).mono ?_
                        rintro e wz ⟨rfl, rfl⟩
                        go_wp2
                        go_ret
                        exact ⟨⟨false, rfl, (fun h => by cases h), fun h => absurd h (BAD.out (fun h => absurd (ST.out.1 h) (by unfold rowOk; simp only; rintro ⟨⟨h1, h2, h3, h4⟩, -⟩; omega)))⟩, BC.out⟩
                    · have s1 : decide (x3 < 0) = true := decide_eq_true (by omega)
                      go_wp2_with fail
                      refine (R1.out _).mono ?_
                      rintro e wz ⟨rfl, rfl⟩
                      go_wp2_with fail
                      refine (R2.out _).mono ?_
                      rintro e wz ⟨rfl, rfl⟩
                      go_wp2
                      go_ret
                      exact ⟨⟨false, rfl, (fun h => by cases h), fun h => absurd h (BAD.out (fun h => absurd (ST.out.1 h) (by unfold rowOk; simp only; rintro ⟨⟨h1, h2, h3, h4⟩, -⟩; omega)))⟩, BC.out⟩
                  · have R2 := Lib.hid (fun W => rgate_no e2 W)
                    go_wp2_with fail
                    refine (R1.out _).mono ?_
                    rintro e wz ⟨rfl, rfl⟩
                    go_wp2_with fail
                    refine (R2.out _).mono ?_
                    rintro e wz ⟨rfl, rfl⟩
                    go_wp2
                    go_ret
                    exact ⟨⟨false, rfl, (fun h => by cases h), fun h => absurd h (BAD.out (fun h => absurd (ST.out.1 h) (by unfold rowOk; simp only; rintro ⟨⟨h1, h2, h3, h4⟩, -⟩; exact e2 h2)))⟩, BC.out⟩
                · have R1 := Lib.hid (fun W => rwin_no e1 W)
                  go_wp2_with fail
                  refine (R1.out _).mono ?_
                  rintro e wz ⟨rfl, rfl⟩
                  go_wp2
                  go_ret
                  exact ⟨⟨false, rfl, (fun h => by cases h), fun h => absurd h (BAD.out (fun h => absurd (ST.out.1 h) (by unfold rowOk; simp only; rintro ⟨⟨h1, h2, h3, h4⟩, -⟩; exact e1 h1)))⟩, BC.out⟩
              · have hkN : k = N := by omega
                have OKK := Lib.hid (HO.out.2 ⟨HD.out, fun j hj => HJ.out j (by omega)⟩)
                clear hkN
                go_wp2
                go_ret
                exact ⟨⟨true, rfl, fun _ => OKK.out, fun _ => rfl⟩, hbe.out⟩
          · have t3 : decide ((10000 : Int) < (N : Int)) = true := decide_eq_true (by omega)
            go_enter Try.func18, Try.ntmps18
            go_wp2
            go_ret
            exact ⟨⟨false, rfl, (fun h => by cases h), fun h => absurd (HH.out.1 (HO.out.1 h).1) (fun h => absurd h.2.2 p3)⟩, by (repeat' (first | (with_reducible exact Below.refl _ _) | (with_reducible assumption) | (with_reducible refine Below.alloc ?_ ?_ _) | (with_reducible refine Below.drew ?_) | (with_reducible refine below_dn ?_) | (with_reducible refine Below.setCell ?_ ?_ _) | (with_reducible exact Nat.le_refl _) | omega | (simp only [World.size_alloc, World.size_setCell, World.size_drew]; omega) | (simp; omega) | (simp; done)))⟩
        · have t2b : decide (3600000 < len) = true := decide_eq_true (by omega)
          go_enter Try.func18, Try.ntmps18
          go_wp2
          go_ret
          exact ⟨⟨false, rfl, (fun h => by cases h), fun h => absurd (HH.out.1 (HO.out.1 h).1) (fun h => by omega)⟩, by (repeat' (first | (with_reducible exact Below.refl _ _) | (with_reducible assumption) | (with_reducible refine Below.alloc ?_ ?_ _) | (with_reducible refine Below.drew ?_) | (with_reducible refine below_dn ?_) | (with_reducible refine Below.setCell ?_ ?_ _) | (with_reducible exact Nat.le_refl _) | omega | (simp only [World.size_alloc, World.size_setCell, World.size_drew]; omega) | (simp; omega) | (simp; done)))⟩
      · have t2a : decide (len < 1) = true := decide_eq_true (by omega)
        go_enter Try.func18, Try.ntmps18
        go_wp2
        go_ret
        exact ⟨⟨false, rfl, (fun h => by cases h), fun h => absurd (HH.out.1 (HO.out.1 h).1) (fun h => by omega)⟩, by (repeat' (first | (with_reducible exact Below.refl _ _) | (with_reducible assumption) | (with_reducible refine Below.alloc ?_ ?_ _) | (with_reducible refine Below.drew ?_) | (with_reducible refine below_dn ?_) | (with_reducible refine Below.setCell ?_ ?_ _) | (with_reducible exact Nat.le_refl _) | omega | (simp only [World.size_alloc, World.size_setCell, World.size_drew]; omega) | (simp; omega) | (simp; done)))⟩
    · have t1b : decide (1073741824 < cap) = true := decide_eq_true (by omega)
      go_enter Try.func18, Try.ntmps18
      go_wp2
      go_ret
      exact ⟨⟨false, rfl, (fun h => by cases h), fun h => absurd (HH.out.1 (HO.out.1 h).1) (fun h => by omega)⟩, by (repeat' (first | (with_reducible exact Below.refl _ _) | (with_reducible assumption) | (with_reducible refine Below.alloc ?_ ?_ _) | (with_reducible refine Below.drew ?_) | (with_reducible refine below_dn ?_) | (with_reducible refine Below.setCell ?_ ?_ _) | (with_reducible exact Nat.le_refl _) | omega | (simp only [World.size_alloc, World.size_setCell, World.size_drew]; omega) | (simp; omega) | (simp; done)))⟩
  · have t1a : decide (cap < 0) = true := decide_eq_true (by omega)
    go_enter Try.func18, Try.ntmps18
    go_wp2
    go_ret
    exact ⟨⟨false, rfl, (fun h => by cases h), fun h => absurd (HH.out.1 (HO.out.1 h).1) (fun h => by omega)⟩, by (repeat' (first | (with_reducible exact Below.refl _ _) | (with_reducible assumption) | (with_reducible refine Below.alloc ?_ ?_ _) | (with_reducible refine Below.drew ?_) | (with_reducible refine below_dn ?_) | (with_reducible refine Below.setCell ?_ ?_ _) | (with_reducible exact Nat.le_refl _) | omega | (simp only [World.size_alloc, World.size_setCell, World.size_drew]; omega) | (simp; omega) | (simp; done)))⟩
end Go.Proofs.Ytcgdhankllphgaa
