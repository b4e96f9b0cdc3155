/- Contracts: ValidPurse of the reference. -/
import Derived.Test.YtcgdhankllphgaaVP
import Derived.Test.YtcgdhankllphgaaDL
namespace Go.Proofs.Ytcgdhankllphgaa
set_option linter.unusedVariables false
set_option linter.unusedSimpArgs false
open Go.RowKit Go.Sort
theorem rwin_yesB {n : Int} (h : winOk n) (w : World) : Calls Try.prog 53 #[.int .i64 n] w fun e w' => e = .returned (.bool true) ∧ Below w.heap.size w w' := (rwin_yes h w).mono fun _ _ ⟨h1, h2⟩ => ⟨h1, by subst h2; exact Below.refl _ _⟩
theorem rwin_noB {n : Int} (h : ¬ winOk n) (w : World) : Calls Try.prog 53 #[.int .i64 n] w fun e w' => e = .returned (.bool false) ∧ Below w.heap.size w w' := (rwin_no h w).mono fun _ _ ⟨h1, h2⟩ => ⟨h1, by subst h2; exact Below.refl _ _⟩
set_option maxRecDepth 100000 in
set_option maxHeartbeats 4000000 in
theorem validpref_any (len : Int) (a : Option Addr) (c : Nat) (l : List Rw) (w : World) (hp : RwA w a l) (hm : l.length ≤ 9223372036854775807) :
    Calls Try.prog 35 #[.agg #[.int .i64 len, .slice a l.length c]] w fun e w' => Judged e (OkP len l) ∧ Below w.heap.size w w' := by
  have HP := Lib.hid hp
  have HH := Lib.hid (show headP len l ↔ (1 ≤ len ∧ len ≤ 3600000) ∧ l.length ≤ 10000 from Iff.rfl)
  have HO := Lib.hid (show OkP len l ↔ headP len l ∧ ∀ k, k < l.length → coinOk (prevW l k) (l.getD k r0) from ⟨fun h => ⟨h.head, h.rows⟩, fun h => ⟨h.1, h.2⟩⟩)
  have HPV := Lib.hid (fun (k : Nat) => show prevW l (k + 1) = (l.getD k r0).1 from rfl)
  obtain ⟨N, hN⟩ : ∃ N, l.length = N := ⟨_, rfl⟩
  have HE := Lib.hid hN
  rw [hN] at HH HO hm ⊢
  clear hp hN
  by_cases p1 : 1 ≤ len
  · have s1 : decide (len < 1) = false := decide_eq_false (by omega)
    by_cases p2 : len ≤ 3600000
    · have s2 : decide (3600000 < len) = false := decide_eq_false (by omega)
      by_cases p3 : N ≤ 10000
      · have HD := Lib.hid (HH.out.2 ⟨⟨p1, p2⟩, p3⟩)
        have t3 : decide ((10000 : Int) < (N : Int)) = false := decide_eq_false (by omega)
        go_enter Try.func35, Try.ntmps35
        go_wp2
        go_loopw [3, 4] (fun u3 _ wr => ∃ k : Nat, k ≤ N ∧ u3 = .int .i64 k ∧ Hid (∀ j, j < k → coinOk (prevW l j) (l.getD j r0)) ∧ Hid (Blk wr w.heap.size 45 #[.int .i64 len, .slice a N c]) ∧ Hid (Below w.heap.size w wr)) (fun u3 _ _ => N - (intOf u3).toNat)
        case atStart => exact ⟨0, by omega, rfl, Lib.hid (fun j h => absurd h (by omega)), Lib.hid (Blk.new' w _ _ _ rfl rfl), Lib.hid (by (repeat' (first | (with_reducible exact Below.refl _ _) | (with_reducible assumption) | (with_reducible refine Below.alloc ?_ ?_ _) | (with_reducible refine Below.drew ?_) | (with_reducible refine below_dn ?_) | (with_reducible refine Below.setCell ?_ ?_ _) | (with_reducible exact Nat.le_refl _) | omega | (simp only [World.size_alloc, World.size_setCell, World.size_drew]; omega) | (simp; omega) | (simp; done))))⟩
        case round =>
          obtain ⟨k, hk, rfl, HJ, KB, hbe⟩ := hrel
          obtain ⟨b0, b1⟩ := twob KB.out
          by_cases hlt : k < N
          · obtain ⟨b, off, rfl, q0, q1, q2, q3⟩ := RwA.at_ (HP.out.mono hbe.out) (k := k) (by rw [HE.out]; exact hlt)
            obtain ⟨x, hx⟩ : ∃ y, l.getD k r0 = y := ⟨_, rfl⟩
            obtain ⟨p, hp⟩ : ∃ y, prevW l k = y := ⟨_, rfl⟩
            have HPR := Lib.hid hp
            have BAD := Lib.hid (show ¬ coinOk p x → ¬ OkP len l from fun h h2 => h (by have h3 := (HO.out.1 h2).2 k hlt; rw [hp, hx] at h3; exact h3))
            rw [hx] at q0 q1 q2 q3
            obtain ⟨x1, x2, x3, x4⟩ := x
            simp only at q0 q1 q2 q3
            have HX := Lib.hid hx
            clear hx hp
            have wk : IntKind.i64.wrap ((k : Int) + 1) = (k : Int) + 1 := by rw [IntKind.wrap_i64]; omega
            have k0 : (0 : Int) ≤ (k : Int) := by omega
            have kn : (k : Int) < (N : Int) := by omega
            obtain ⟨g, hg⟩ : ∃ g, wr.heap.size = g := ⟨_, rfl⟩
            have KX := Lib.hid (show Blk (wr.alloc (.cells #[.int .i64 x1, .int .i64 x2, .int .i64 x3, .int .i64 x4] 89)) g 89 #[.int .i64 x1, .int .i64 x2, .int .i64 x3, .int .i64 x4] from Blk.new' wr _ _ _ hg rfl)
            have KC := Lib.hid (KB.out.alloc (.cells #[.int .i64 x1, .int .i64 x2, .int .i64 x3, .int .i64 x4] 89))
            have BC := Lib.hid (hbe.out.alloc hbe.out.size (.cells #[.int .i64 x1, .int .i64 x2, .int .i64 x3, .int .i64 x4] 89))
            go_upto_region 7 with (fail)
            try rw [hg]
            generalize hwx : wr.alloc (.cells #[.int .i64 x1, .int .i64 x2, .int .i64 x3, .int .i64 x4] 89) = wx at KX KC BC ⊢
            clear hwx hg KB hbe q0 q1 q2 q3 b0 b1
            obtain ⟨d0, d1, d2, d3⟩ := four KX.out
            obtain ⟨b0, b1⟩ := twob KC.out
            by_cases e1 : winOk x1
            · have QO := Lib.hid (fun (d : Nat) (os : Array Obj) => rwin_yesB e1 (grow (redrawn wx d) os))
              by_cases e2 : x2 < 0
              · have t2 : decide (x2 < 0) = true := decide_eq_true (by omega)
                have NOT := Lib.hid (show ¬ coinOk p (x1, x2, x3, x4) by unfold coinOk; simp only; rintro ⟨h1, h2, h3, h4, h5⟩; omega)
                clear e1 
                have gc := grow_cell3
                have zzb := KC.out.lt
                have zzx := KX.out.lt
                go_wp2_with fail
                refine wp_region_quiet_below (by kernel_rfl) (by kernel_rfl) ?_
                repeat (go_big_quiet_step (first | (with_reducible exact Calls.regrown_of (QO.out _ _))))
                refine wpQuiet_nil ?_
                intro w6 hw'
                obtain ⟨⟨dq, osq⟩, hw''⟩ := hw'
                have hb := below_of_grow3 hw''
                clear hw'' gc zzb zzx
                replace KC := Lib.hid (KC.out.below hb KC.out.lt)
                replace BC := Lib.hid (BC.out.trans (hb.mono BC.out.size))
                clear hb d0 d1 d2 d3 b0 b1
                obtain ⟨b0, b1⟩ := twob KC.out
                go_wp2
                go_ret
                exact ⟨⟨false, rfl, (fun h => by cases h), fun h => absurd h (BAD.out NOT.out)⟩, BC.out⟩
              · have t2 : decide (x2 < 0) = false := decide_eq_false (by omega)
                by_cases e3 : 1099511627776 < x2
                · have t3 : decide (1099511627776 < x2) = true := decide_eq_true (by omega)
                  have NOT := Lib.hid (show ¬ coinOk p (x1, x2, x3, x4) by unfold coinOk; simp only; rintro ⟨h1, h2, h3, h4, h5⟩; omega)
                  clear e1 
                  have gc := grow_cell3
                  have zzb := KC.out.lt
                  have zzx := KX.out.lt
                  go_wp2_with fail
                  refine wp_region_quiet_below (by kernel_rfl) (by kernel_rfl) ?_
                  repeat (go_big_quiet_step (first | (with_reducible exact Calls.regrown_of (QO.out _ _))))
                  refine wpQuiet_nil ?_
                  intro w6 hw'
                  obtain ⟨⟨dq, osq⟩, hw''⟩ := hw'
                  have hb := below_of_grow3 hw''
                  clear hw'' gc zzb zzx
                  replace KC := Lib.hid (KC.out.below hb KC.out.lt)
                  replace BC := Lib.hid (BC.out.trans (hb.mono BC.out.size))
                  clear hb d0 d1 d2 d3 b0 b1
                  obtain ⟨b0, b1⟩ := twob KC.out
                  go_wp2
                  go_ret
                  exact ⟨⟨false, rfl, (fun h => by cases h), fun h => absurd h (BAD.out NOT.out)⟩, BC.out⟩
                · have t3 : decide (1099511627776 < x2) = false := decide_eq_false (by omega)
                  by_cases e4 : x3 < 0
                  · have t4 : decide (x3 < 0) = true := decide_eq_true (by omega)
                    have NOT := Lib.hid (show ¬ coinOk p (x1, x2, x3, x4) by unfold coinOk; simp only; rintro ⟨h1, h2, h3, h4, h5⟩; omega)
                    clear e1 
                    have gc := grow_cell3
                    have zzb := KC.out.lt
                    have zzx := KX.out.lt
                    go_wp2_with fail
                    refine wp_region_quiet_below (by kernel_rfl) (by kernel_rfl) ?_
                    repeat (go_big_quiet_step (first | (with_reducible exact Calls.regrown_of (QO.out _ _))))
                    refine wpQuiet_nil ?_
                    intro w6 hw'
                    obtain ⟨⟨dq, osq⟩, hw''⟩ := hw'
                    have hb := below_of_grow3 hw''
                    clear hw'' gc zzb zzx
                    replace KC := Lib.hid (KC.out.below hb KC.out.lt)
                    replace BC := Lib.hid (BC.out.trans (hb.mono BC.out.size))
                    clear hb d0 d1 d2 d3 b0 b1
                    obtain ⟨b0, b1⟩ := twob KC.out
                    go_wp2
                    go_ret
                    exact ⟨⟨false, rfl, (fun h => by cases h), fun h => absurd h (BAD.out NOT.out)⟩, BC.out⟩
                  · have t4 : decide (x3 < 0) = false := decide_eq_false (by omega)
                    by_cases e5 : x4 < 0
                    · have t5 : decide (x4 < 0) = true := decide_eq_true (by omega)
                      have NOT := Lib.hid (show ¬ coinOk p (x1, x2, x3, x4) by unfold coinOk; simp only; rintro ⟨h1, h2, h3, h4, h5⟩; omega)
                      clear e1 
                      have gc := grow_cell3
                      have zzb := KC.out.lt
                      have zzx := KX.out.lt
                      go_wp2_with fail
                      refine wp_region_quiet_below (by kernel_rfl) (by kernel_rfl) ?_
                      repeat (go_big_quiet_step (first | (with_reducible exact Calls.regrown_of (QO.out _ _))))
                      refine wpQuiet_nil ?_
                      intro w6 hw'
                      obtain ⟨⟨dq, osq⟩, hw''⟩ := hw'
                      have hb := below_of_grow3 hw''
                      clear hw'' gc zzb zzx
                      replace KC := Lib.hid (KC.out.below hb KC.out.lt)
                      replace BC := Lib.hid (BC.out.trans (hb.mono BC.out.size))
                      clear hb d0 d1 d2 d3 b0 b1
                      obtain ⟨b0, b1⟩ := twob KC.out
                      go_wp2
                      go_ret
                      exact ⟨⟨false, rfl, (fun h => by cases h), fun h => absurd h (BAD.out NOT.out)⟩, BC.out⟩
                    · have t5 : decide (x4 < 0) = false := decide_eq_false (by omega)
                      by_cases e6 : x2 < x3
                      · have t6 : decide (x2 < x3) = true := decide_eq_true (by omega)
                        have NOT := Lib.hid (show ¬ coinOk p (x1, x2, x3, x4) by unfold coinOk; simp only; rintro ⟨h1, h2, h3, h4, h5⟩; omega)
                        clear e1 
                        have gc := grow_cell3
                        have zzb := KC.out.lt
                        have zzx := KX.out.lt
                        go_wp2_with fail
                        refine wp_region_quiet_below (by kernel_rfl) (by kernel_rfl) ?_
                        repeat (go_big_quiet_step (first | (with_reducible exact Calls.regrown_of (QO.out _ _))))
                        refine wpQuiet_nil ?_
                        intro w6 hw'
                        obtain ⟨⟨dq, osq⟩, hw''⟩ := hw'
                        have hb := below_of_grow3 hw''
                        clear hw'' gc zzb zzx
                        replace KC := Lib.hid (KC.out.below hb KC.out.lt)
                        replace BC := Lib.hid (BC.out.trans (hb.mono BC.out.size))
                        clear hb d0 d1 d2 d3 b0 b1
                        obtain ⟨b0, b1⟩ := twob KC.out
                        go_wp2
                        go_ret
                        exact ⟨⟨false, rfl, (fun h => by cases h), fun h => absurd h (BAD.out NOT.out)⟩, BC.out⟩
                      · have t6 : decide (x2 < x3) = false := decide_eq_false (by omega)
                        have W5 : IntKind.i64.wrap (x2 - x3) = x2 - x3 := by rw [IntKind.wrap_i64]; omega
                        have W6 := Lib.hid W5
                        by_cases e7 : x2 - x3 < x4
                        · have t7 : decide (x2 - x3 < x4) = true := decide_eq_true (by omega)
                          have NOT := Lib.hid (show ¬ coinOk p (x1, x2, x3, x4) by unfold coinOk; simp only; rintro ⟨h1, h2, h3, h4, h5⟩; omega)
                          clear e1 
                          have gc := grow_cell3
                          have zzb := KC.out.lt
                          have zzx := KX.out.lt
                          go_wp2_with fail
                          refine wp_region_quiet_below (by kernel_rfl) (by kernel_rfl) ?_
                          repeat (go_big_quiet_step (first | (with_reducible exact Calls.regrown_of (QO.out _ _))))
                          refine wpQuiet_nil ?_
                          intro w6 hw'
                          obtain ⟨⟨dq, osq⟩, hw''⟩ := hw'
                          have hb := below_of_grow3 hw''
                          clear hw'' gc zzb zzx
                          replace KC := Lib.hid (KC.out.below hb KC.out.lt)
                          replace BC := Lib.hid (BC.out.trans (hb.mono BC.out.size))
                          clear hb d0 d1 d2 d3 b0 b1
                          obtain ⟨b0, b1⟩ := twob KC.out
                          go_wp2
                          go_ret
                          exact ⟨⟨false, rfl, (fun h => by cases h), fun h => absurd h (BAD.out NOT.out)⟩, BC.out⟩
                        · have t7 : decide (x2 - x3 < x4) = false := decide_eq_false (by omega)
                          clear W6
                          by_cases hk0 : k = 0
                          · have t8 : decide ((0 : Int) < (k : Int)) = false := decide_eq_false (by omega)
                            have t8b : decide (0 < k) = false := decide_eq_false (by omega)
                            have YES := Lib.hid (show coinOk (prevW l k) (x1, x2, x3, x4) from by rw [hk0]; exact ⟨e1, by have := e1.1; show (-1 : Int) < x1; omega, by simp only; omega, by simp only; omega, by simp only; omega⟩)
                            clear hk0 e1
                            have gc := grow_cell3
                            have zzb := KC.out.lt
                            have zzx := KX.out.lt
                            go_wp2_with fail
                            refine wp_region_quiet_below (by kernel_rfl) (by kernel_rfl) ?_
                            repeat (go_big_quiet_step (first | (with_reducible exact Calls.regrown_of (QO.out _ _))))
                            refine wpQuiet_nil ?_
                            intro w6 hw'
                            obtain ⟨⟨dq, osq⟩, hw''⟩ := hw'
                            have hb := below_of_grow3 hw''
                            clear hw'' gc zzb zzx
                            replace KC := Lib.hid (KC.out.below hb KC.out.lt)
                            replace BC := Lib.hid (BC.out.trans (hb.mono BC.out.size))
                            clear hb d0 d1 d2 d3 b0 b1
                            obtain ⟨b0, b1⟩ := twob KC.out
                            go_wp2
                            go_roundw
                            case rel =>
                              refine ⟨k + 1, by omega, by go_num, Lib.hid (fun j hj => ?_), KC, BC⟩
                              rcases Nat.lt_or_ge j k with h | h
                              · exact HJ.out j h
                              · rw [show j = k by omega, HX.out]; exact YES.out
                            case measure => simp [intOf]; omega
                          · have t8 : decide ((0 : Int) < (k : Int)) = true := decide_eq_true (by omega)
                            have t8b : decide (0 < k) = true := decide_eq_true (by omega)
                            obtain ⟨km, hkm⟩ : ∃ km, k = km + 1 := ⟨k - 1, by omega⟩
                            have wk1 : IntKind.i64.wrap ((k : Int) - 1) = (km : Int) := by rw [IntKind.wrap_i64]; omega
                            have wk2 : (k : Int) - 1 = (km : Int) := by omega
                            have wk3 : IntKind.i64.wrap (km : Int) = (km : Int) := by rw [IntKind.wrap_i64]; omega
                            have wk4 : (-1 : Int) + (k : Int) = (km : Int) := by omega
                            obtain ⟨bb, oo, ee, r0_, -, -, -⟩ := RwA.at_ (HP.out.mono BC.out) (k := km) (by rw [HE.out]; omega)
                            injection ee with ee
                            injection ee with ee1 ee2 ee3
                            subst ee1
                            subst ee2
                            obtain ⟨y1, hy1⟩ : ∃ y, (l.getD km r0).1 = y := ⟨_, rfl⟩
                            rw [hy1] at r0_
                            have HPK2 := Lib.hid (show prevW l k = y1 by rw [hkm, HPV.out, hy1])
                            have HPK := Lib.hid (show p = y1 by rw [← HPR.out]; exact HPK2.out)
                            have mk0 : (0 : Int) ≤ (km : Int) := by omega
                            have mkn : (km : Int) < (N : Int) := by omega
                            have zk := block_lt_of_cell r0_
                            clear hy1 hkm ee3
                            by_cases e8 : x1 ≤ y1
                            · have t9 : decide (x1 ≤ y1) = true := decide_eq_true (by omega)
                              have NOT := Lib.hid (show ¬ coinOk p (x1, x2, x3, x4) by unfold coinOk; simp only; rintro ⟨h1, h2, h3, h4, h5⟩; rw [HPK.out] at h2; omega)
                              clear e1 e8 hk0
                              have gc := grow_cell3
                              have zzb := KC.out.lt
                              have zzx := KX.out.lt
                              go_wp2_with fail
                              refine wp_region_quiet_below (by kernel_rfl) (by kernel_rfl) ?_
                              repeat (go_big_quiet_step (first | (with_reducible exact Calls.regrown_of (QO.out _ _))))
                              refine wpQuiet_nil ?_
                              intro w6 hw'
                              obtain ⟨⟨dq, osq⟩, hw''⟩ := hw'
                              have hb := below_of_grow3 hw''
                              clear hw'' gc zzb zzx
                              replace KC := Lib.hid (KC.out.below hb KC.out.lt)
                              replace BC := Lib.hid (BC.out.trans (hb.mono BC.out.size))
                              clear hb d0 d1 d2 d3 b0 b1
                              obtain ⟨b0, b1⟩ := twob KC.out
                              go_wp2
                              go_ret
                              exact ⟨⟨false, rfl, (fun h => by cases h), fun h => absurd h (BAD.out NOT.out)⟩, BC.out⟩
                            · have t9 : decide (x1 ≤ y1) = false := decide_eq_false (by omega)
                              have YES := Lib.hid (show coinOk (prevW l k) (x1, x2, x3, x4) from by rw [HPK2.out]; exact ⟨e1, by simp only; omega, by simp only; omega, by simp only; omega, by simp only; omega⟩)
                              clear e1 e8 hk0
                              have gc := grow_cell3
                              have zzb := KC.out.lt
                              have zzx := KX.out.lt
                              go_wp2_with fail
                              refine wp_region_quiet_below (by kernel_rfl) (by kernel_rfl) ?_
                              repeat (go_big_quiet_step (first | (with_reducible exact Calls.regrown_of (QO.out _ _))))
                              refine wpQuiet_nil ?_
                              intro w6 hw'
                              obtain ⟨⟨dq, osq⟩, hw''⟩ := hw'
                              have hb := below_of_grow3 hw''
                              clear hw'' gc zzb zzx
                              replace KC := Lib.hid (KC.out.below hb KC.out.lt)
                              replace BC := Lib.hid (BC.out.trans (hb.mono BC.out.size))
                              clear hb d0 d1 d2 d3 b0 b1
                              obtain ⟨b0, b1⟩ := twob KC.out
                              go_wp2
                              go_roundw
                              case rel =>
                                refine ⟨k + 1, by omega, by go_num, Lib.hid (fun j hj => ?_), KC, BC⟩
                                rcases Nat.lt_or_ge j k with h | h
                                · exact HJ.out j h
                                · rw [show j = k by omega, HX.out]; exact YES.out
                              case measure => simp [intOf]; omega
            · have QO := Lib.hid (fun (d : Nat) (os : Array Obj) => rwin_noB e1 (grow (redrawn wx d) os))
              have NOT := Lib.hid (show ¬ coinOk p (x1, x2, x3, x4) by unfold coinOk; simp only; rintro ⟨h1, h2, h3, h4, h5⟩; exact e1 h1)
              clear e1
              have gc := grow_cell3
              have zzb := KC.out.lt
              have zzx := KX.out.lt
              go_wp2_with fail
              refine wp_region_quiet_below (by kernel_rfl) (by kernel_rfl) ?_
              repeat (go_big_quiet_step (first | (with_reducible exact Calls.regrown_of (QO.out _ _))))
              refine wpQuiet_nil ?_
              intro w6 hw'
              obtain ⟨⟨dq, osq⟩, hw''⟩ := hw'
              have hb := below_of_grow3 hw''
              clear hw'' gc zzb zzx
              replace KC := Lib.hid (KC.out.below hb KC.out.lt)
              replace BC := Lib.hid (BC.out.trans (hb.mono BC.out.size))
              clear hb d0 d1 d2 d3 b0 b1
              obtain ⟨b0, b1⟩ := twob KC.out
              go_wp2
              go_ret
              exact ⟨⟨false, rfl, (fun h => by cases h), fun h => absurd h (BAD.out NOT.out)⟩, BC.out⟩
          · have hkN : k = N := by omega
            have OKK := Lib.hid (HO.out.2 ⟨HD.out, fun j hj => HJ.out j (by omega)⟩)
            clear hkN
            go_wp2
            go_ret
            exact ⟨⟨true, rfl, fun _ => OKK.out, fun _ => rfl⟩, hbe.out⟩
      · have t3 : decide ((10000 : Int) < (N : Int)) = true := decide_eq_true (by omega)
        go_enter Try.func35, Try.ntmps35
        go_wp2
        go_ret
        exact ⟨⟨false, rfl, (fun h => by cases h), fun h => absurd (HH.out.1 (HO.out.1 h).1) (fun h => absurd h.2 p3)⟩, by (repeat' (first | (with_reducible exact Below.refl _ _) | (with_reducible assumption) | (with_reducible refine Below.alloc ?_ ?_ _) | (with_reducible refine Below.drew ?_) | (with_reducible refine below_dn ?_) | (with_reducible refine Below.setCell ?_ ?_ _) | (with_reducible exact Nat.le_refl _) | omega | (simp only [World.size_alloc, World.size_setCell, World.size_drew]; omega) | (simp; omega) | (simp; done)))⟩
    · have s2 : decide (3600000 < len) = true := decide_eq_true (by omega)
      go_enter Try.func35, Try.ntmps35
      go_wp2
      go_ret
      exact ⟨⟨false, rfl, (fun h => by cases h), fun h => absurd (HH.out.1 (HO.out.1 h).1) (fun h => by omega)⟩, by (repeat' (first | (with_reducible exact Below.refl _ _) | (with_reducible assumption) | (with_reducible refine Below.alloc ?_ ?_ _) | (with_reducible refine Below.drew ?_) | (with_reducible refine below_dn ?_) | (with_reducible refine Below.setCell ?_ ?_ _) | (with_reducible exact Nat.le_refl _) | omega | (simp only [World.size_alloc, World.size_setCell, World.size_drew]; omega) | (simp; omega) | (simp; done)))⟩
  · have s1 : decide (len < 1) = true := decide_eq_true (by omega)
    go_enter Try.func35, Try.ntmps35
    go_wp2
    go_ret
    exact ⟨⟨false, rfl, (fun h => by cases h), fun h => absurd (HH.out.1 (HO.out.1 h).1) (fun h => by omega)⟩, by (repeat' (first | (with_reducible exact Below.refl _ _) | (with_reducible assumption) | (with_reducible refine Below.alloc ?_ ?_ _) | (with_reducible refine Below.drew ?_) | (with_reducible refine below_dn ?_) | (with_reducible refine Below.setCell ?_ ?_ _) | (with_reducible exact Nat.le_refl _) | omega | (simp only [World.size_alloc, World.size_setCell, World.size_drew]; omega) | (simp; omega) | (simp; done)))⟩
theorem rvalidp_yes {len : Int} {l : List Rw} (ok : OkP len l) (a : Option Addr) (c : Nat) (w : World) (hp : RwA w a l) :
    Calls Try.prog 35 #[.agg #[.int .i64 len, .slice a l.length c]] w fun e w' => e = .returned (.bool true) ∧ Below w.heap.size w w' := by
  have := ok.head.2
  refine (validpref_any len a c l w hp (by omega)).mono ?_
  rintro e w' ⟨⟨b, rfl, hb⟩, h⟩
  obtain rfl : b = true := hb.2 ok
  exact ⟨rfl, h⟩
theorem rvalidp_no {len : Int} {l : List Rw} (no : ¬ OkP len l) (hm : l.length ≤ 9223372036854775807) (a : Option Addr) (c : Nat) (w : World) (hp : RwA w a l) :
    Calls Try.prog 35 #[.agg #[.int .i64 len, .slice a l.length c]] w fun e w' => e = .returned (.bool false) ∧ Below w.heap.size w w' := by
  refine (validpref_any len a c l w hp hm).mono ?_
  rintro e w' ⟨⟨b, rfl, hb⟩, h⟩
  obtain rfl : b = false := by
    cases b
    · rfl
    · exact absurd (hb.1 rfl) no
  exact ⟨rfl, h⟩
end Go.Proofs.Ytcgdhankllphgaa
