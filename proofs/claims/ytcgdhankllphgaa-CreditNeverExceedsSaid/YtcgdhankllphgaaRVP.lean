import Derived.Test.YtcgdhankllphgaaRF
import Derived.Test.YtcgdhankllphgaaRY2
import Derived.BigQuiet
namespace Go.Proofs.Ytcgdhankllphgaa
set_option linter.unusedVariables false
set_option linter.unusedSimpArgs false
set_option linter.unusedSectionVars false
open Go.RowKit
theorem twob {X : World} {g : Nat} {t : TypeId} {v0 v1 : Value} (h : Blk X g t #[v0, v1]) : X.cell? ⟨g, 0, none⟩ = some v0 ∧ X.cell? ⟨g, 1, none⟩ = some v1 := ⟨h.cell 0, h.cell 1⟩
set_option maxRecDepth 100000 in
set_option maxHeartbeats 4000000 in
theorem validp_any (len : Int) (a : Option Addr) (c : Nat) (l : List Rw) (w : World) (hp : RwA w a l) (hm : l.length ≤ 9223372036854775807) :
    Calls Try.prog 34 #[.agg #[.int .i64 len, .slice a l.length c]] w fun e w' => Judged e (OkP len l) ∧ Below w.heap.size w w' := by
  have HP := Lib.hid hp
  have HH := Lib.hid (show headP len l ↔ (1 ≤ len ∧ len ≤ 3600000) ∧ l.length ≤ 10000 from Iff.rfl)
  have HO := Lib.hid (show OkP len l ↔ headP len l ∧ ∀ k, k < l.length → coinOk (prevW l k) (l.getD k r0) from ⟨fun h => ⟨h.head, h.rows⟩, fun h => ⟨h.1, h.2⟩⟩)
  have HPV := Lib.hid (fun (k : Nat) => show prevW l (k + 1) = (l.getD k r0).1 from rfl)
  obtain ⟨N, hN⟩ : ∃ N, l.length = N := ⟨_, rfl⟩
  have HE := Lib.hid hN
  rw [hN] at HH HO hm ⊢
  clear hp hN
  by_cases p2 : 1 ≤ len ∧ len ≤ 3600000
  · have C2 := Lib.hid (fun W => within_yes p2 W)
    by_cases p3 : N ≤ 10000
    · have HD := Lib.hid (HH.out.2 ⟨p2, p3⟩)
      have t3 : decide ((10000 : Int) < (N : Int)) = false := decide_eq_false (by omega)
      clear p2
      go_enter Try.func34, Try.ntmps34
      go_wp2_with fail
      refine (C2.out _).mono ?_
      rintro e wz ⟨rfl, rfl⟩
      go_wp2
      go_loopw [19, 3, 5] (fun u19 u3 _ wr => ∃ (k : Nat) (p : Int), k ≤ N ∧ u19 = .int .i64 k ∧ u3 = .int .i64 p ∧ Hid (prevW l k = p) ∧ Hid (∀ j, j < k → coinOk (prevW l j) (l.getD j r0)) ∧ Hid (Blk wr w.heap.size 45 #[.int .i64 len, .slice a N c]) ∧ Hid (Below w.heap.size w wr)) (fun u19 _ _ _ => N - (intOf u19).toNat)
      case atStart => exact ⟨0, -1, by omega, rfl, rfl, Lib.hid rfl, Lib.hid (fun j h => absurd h (by omega)), Lib.hid (Blk.new' w _ _ _ rfl rfl), Lib.hid (by (repeat' (first | (with_reducible exact Below.refl _ _) | (with_reducible assumption) | (with_reducible refine Below.alloc ?_ ?_ _) | (with_reducible refine Below.drew ?_) | (with_reducible refine below_dn ?_) | (with_reducible refine Below.setCell ?_ ?_ _) | (with_reducible exact Nat.le_refl _) | omega | (simp only [World.size_alloc, World.size_setCell, World.size_drew]; omega) | (simp; omega) | (simp; done))))⟩
      case round =>
        clear C2
        obtain ⟨k, p, hk, rfl, rfl, HPR, HJ, KB, hbe⟩ := hrel
        by_cases hlt : k < N
        · obtain ⟨b, off, rfl, q0, q1, q2, q3⟩ := RwA.at_ (HP.out.mono hbe.out) (k := k) (by rw [HE.out]; exact hlt)
          obtain ⟨x, hx⟩ : ∃ y, l.getD k r0 = y := ⟨_, rfl⟩
          have BAD := Lib.hid (show ¬ coinOk p x → ¬ OkP len l from fun h h2 => h (by have h3 := (HO.out.1 h2).2 k hlt; rw [HPR.out, hx] at h3; exact h3))
          rw [hx] at q0 q1 q2 q3
          obtain ⟨x1, x2, x3, x4⟩ := x
          simp only at q0 q1 q2 q3
          have HX := Lib.hid hx
          clear hx
          have k0 : (0 : Int) ≤ (k : Int) := by omega
          have kn : (k : Int) < (N : Int) := by omega
          obtain ⟨g, hg⟩ : ∃ g, wr.heap.size = g := ⟨_, rfl⟩
          have KX := Lib.hid (show Blk (wr.alloc (.cells #[.int .i64 x1, .int .i64 x2, .int .i64 x3, .int .i64 x4] 89)) g 89 #[.int .i64 x1, .int .i64 x2, .int .i64 x3, .int .i64 x4] from Blk.new' wr _ _ _ hg rfl)
          have KC := Lib.hid (KB.out.alloc (.cells #[.int .i64 x1, .int .i64 x2, .int .i64 x3, .int .i64 x4] 89))
          have BC := Lib.hid (hbe.out.alloc hbe.out.size (.cells #[.int .i64 x1, .int .i64 x2, .int .i64 x3, .int .i64 x4] 89))
          go_upto_region 7 with (fail)
          try rw [hg]
          generalize hwx : wr.alloc (.cells #[.int .i64 x1, .int .i64 x2, .int .i64 x3, .int .i64 x4] 89) = wx at KX KC BC ⊢
          clear hwx hg KB hbe q0 q1 q2 q3
          obtain ⟨d0, d1, d2, d3⟩ := four KX.out
          by_cases e1 : winOk x1
          · have R1 := Lib.hid (fun W => win_yes e1 W)
            by_cases e2 : p < x1
            · have s2 : decide (x1 ≤ p) = false := decide_eq_false (by omega)
              by_cases e3 : 0 ≤ x2 ∧ x2 ≤ 1099511627776
              · have R3 := Lib.hid (fun W => within_yes e3 W)
                by_cases e4 : 0 ≤ x3 ∧ x3 ≤ x2
                · have R4 := Lib.hid (fun W => within_yes e4 W)
                  have ws : IntKind.i64.wrap (x2 - x3) = x2 - x3 := by rw [IntKind.wrap_i64]; omega
                  obtain ⟨y, hy⟩ : ∃ y, x2 - x3 = y := ⟨_, rfl⟩
                  rw [hy] at ws
                  by_cases e5 : 0 ≤ x4 ∧ x4 ≤ y
                  · have R5 := Lib.hid (fun W => within_yes e5 W)
                    have YES := Lib.hid (show coinOk p (x1, x2, x3, x4) from ⟨e1, e2, e3, e4, e5.1, by have := e5.2; simp only; omega⟩)
                    have yb : 0 ≤ y ∧ y ≤ 1099511627776 := by omega
                    clear e1 e2 e3 e4 e5
                    go_wp2_with fail
                    refine (R1.out _).mono ?_
                    rintro e wz ⟨rfl, rfl⟩
                    go_wp2_with fail
                    refine (R3.out _).mono ?_
                    rintro e wz ⟨rfl, rfl⟩
                    go_wp2_with fail
                    refine (R4.out _).mono ?_
                    rintro e wz ⟨rfl, rfl⟩
                    go_wp2_with fail
                    refine (R5.out _).mono ?_
                    rintro e wz ⟨rfl, rfl⟩
                    go_wp2
                    go_roundw
                    case rel =>
                      refine ⟨k + 1, x1, by omega, by go_num, rfl, Lib.hid (by rw [HPV.out, HX.out]), Lib.hid (fun j hj => ?_), KC, BC⟩
                      rcases Nat.lt_or_ge j k with h | h
                      · exact HJ.out j h
                      · rw [show j = k by omega, HX.out, HPR.out]; exact YES.out
                    case measure => simp [intOf]; omega
                  · have R5 := Lib.hid (fun W => within_no e5 W)
                    have yb : 0 ≤ y ∧ y ≤ 1099511627776 := by omega
                    have NE5 := Lib.hid (show ¬ (0 ≤ x4 ∧ x4 ≤ x2 - x3) by rw [hy]; exact e5)
                    clear e5
                    go_wp2_with fail
                    refine (R1.out _).mono ?_
                    rintro e wz ⟨rfl, rfl⟩
                    go_wp2_with fail
                    refine (R3.out _).mono ?_
                    rintro e wz ⟨rfl, rfl⟩
                    go_wp2_with fail
                    refine (R4.out _).mono ?_
                    rintro e wz ⟨rfl, rfl⟩
                    go_wp2_with fail
                    refine (R5.out _).mono ?_
                    rintro e wz ⟨rfl, rfl⟩
                    go_wp2
                    go_ret
                    exact ⟨⟨false, rfl, (fun h => by cases h), fun h => absurd h (BAD.out (by unfold coinOk; simp only; rintro ⟨h1, h2, h3, h4, h5⟩; exact NE5.out h5))⟩, BC.out⟩
                · have R4 := Lib.hid (fun W => within_no e4 W)
                  go_wp2_with fail
                  refine (R1.out _).mono ?_
                  rintro e wz ⟨rfl, rfl⟩
                  go_wp2_with fail
                  refine (R3.out _).mono ?_
                  rintro e wz ⟨rfl, rfl⟩
                  go_wp2_with fail
                  refine (R4.out _).mono ?_
                  rintro e wz ⟨rfl, rfl⟩
                  go_wp2
                  go_ret
                  exact ⟨⟨false, rfl, (fun h => by cases h), fun h => absurd h (BAD.out (by unfold coinOk; simp only; rintro ⟨h1, h2, h3, h4, h5⟩; exact e4 h4))⟩, BC.out⟩
              · have R3 := Lib.hid (fun W => within_no e3 W)
                go_wp2_with fail
                refine (R1.out _).mono ?_
                rintro e wz ⟨rfl, rfl⟩
                go_wp2_with fail
                refine (R3.out _).mono ?_
                rintro e wz ⟨rfl, rfl⟩
                go_wp2
                go_ret
                exact ⟨⟨false, rfl, (fun h => by cases h), fun h => absurd h (BAD.out (by unfold coinOk; simp only; rintro ⟨h1, h2, h3, h4, h5⟩; exact e3 h3))⟩, BC.out⟩
            · have s2 : decide (x1 ≤ p) = true := decide_eq_true (by omega)
              go_wp2_with fail
              refine (R1.out _).mono ?_
              rintro e wz ⟨rfl, rfl⟩
              go_wp2
              go_ret
              exact ⟨⟨false, rfl, (fun h => by cases h), fun h => absurd h (BAD.out (by unfold coinOk; simp only; rintro ⟨h1, h2, h3, h4, h5⟩; omega))⟩, BC.out⟩
          · have R1 := Lib.hid (fun W => win_no e1 W)
            go_wp2_with fail
            refine (R1.out _).mono ?_
            rintro e wz ⟨rfl, rfl⟩
            go_wp2
            go_ret
            exact ⟨⟨false, rfl, (fun h => by cases h), fun h => absurd h (BAD.out (by unfold coinOk; simp only; rintro ⟨h1, h2, h3, h4, h5⟩; exact e1 h1))⟩, BC.out⟩
        · have hkN : k = N := by omega
          have OKK := Lib.hid (HO.out.2 ⟨HD.out, fun j hj => HJ.out j (by omega)⟩)
          clear hkN
          go_wp2
          go_ret
          exact ⟨⟨true, rfl, fun _ => OKK.out, fun _ => rfl⟩, hbe.out⟩
    · have t3 : decide ((10000 : Int) < (N : Int)) = true := decide_eq_true (by omega)
      go_enter Try.func34, Try.ntmps34
      go_wp2_with fail
      refine (C2.out _).mono ?_
      rintro e wz ⟨rfl, rfl⟩
      go_wp2
      go_ret
      exact ⟨⟨false, rfl, (fun h => by cases h), fun h => absurd (HH.out.1 (HO.out.1 h).1) (fun h => absurd h.2 p3)⟩, by (repeat' (first | (with_reducible exact Below.refl _ _) | (with_reducible assumption) | (with_reducible refine Below.alloc ?_ ?_ _) | (with_reducible refine Below.drew ?_) | (with_reducible refine below_dn ?_) | (with_reducible refine Below.setCell ?_ ?_ _) | (with_reducible exact Nat.le_refl _) | omega | (simp only [World.size_alloc, World.size_setCell, World.size_drew]; omega) | (simp; omega) | (simp; done)))⟩
  · have C2 := Lib.hid (fun W => within_no p2 W)
    go_enter Try.func34, Try.ntmps34
    go_wp2_with fail
    refine (C2.out _).mono ?_
    rintro e wz ⟨rfl, rfl⟩
    go_wp2
    go_ret
    exact ⟨⟨false, rfl, (fun h => by cases h), fun h => absurd (HH.out.1 (HO.out.1 h).1) (fun h => absurd h.1 p2)⟩, by (repeat' (first | (with_reducible exact Below.refl _ _) | (with_reducible assumption) | (with_reducible refine Below.alloc ?_ ?_ _) | (with_reducible refine Below.drew ?_) | (with_reducible refine below_dn ?_) | (with_reducible refine Below.setCell ?_ ?_ _) | (with_reducible exact Nat.le_refl _) | omega | (simp only [World.size_alloc, World.size_setCell, World.size_drew]; omega) | (simp; omega) | (simp; done)))⟩
theorem validp_yes {len : Int} {l : List Rw} (ok : OkP len l) (a : Option Addr) (c : Nat) (w : World) (hp : RwA w a l) :
    Calls Try.prog 34 #[.agg #[.int .i64 len, .slice a l.length c]] w fun e w' => e = .returned (.bool true) ∧ Below w.heap.size w w' := by
  have := ok.head.2
  refine (validp_any len a c l w hp (by omega)).mono ?_
  rintro e w' ⟨⟨b, rfl, hb⟩, h⟩
  obtain rfl : b = true := hb.2 ok
  exact ⟨rfl, h⟩
end Go.Proofs.Ytcgdhankllphgaa
