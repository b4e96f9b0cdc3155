/- Law 7: an addition counts at most one more. -/
import Derived.Test.YtmmjkhamknfhpaaDoorN
namespace Go.Proofs.YtmmjkhamknfhpaaDoor
set_option linter.unusedVariables false
set_option linter.unusedSimpArgs false
open Go.RowKit
theorem Ok.nat {W S A : Int} {l : List Int} (h : Ok W S A l) : ∃ N : Nat, W = (N : Int) ∧ (∃ k : Nat, k ≤ 12 ∧ N = 2 ^ k) ∧ l.length = 4 * N := by
  obtain ⟨k, -, hk⟩ := of_decide_eq_true h.two
  refine ⟨2 ^ k, hk, ⟨k, ?_, rfl⟩, ?_⟩
  · rcases Nat.lt_or_ge 12 k with h1 | h1
    · have h2 := Nat.pow_le_pow_right (n := 2) (by decide) (show 13 ≤ k by omega)
      have h3 : (2 : Nat) ^ 13 = 8192 := by decide
      have := h.w
      omega
    · exact h1
  · have := h.len
    omega
theorem min_both (x : Int) : min x 15 = min 15 x := Int.min_comm _ _
set_option maxRecDepth 100000 in
set_option maxHeartbeats 1000000 in
theorem one_law (W S A : Int) (a : Option Addr) (cap : Nat) (l : List Int) (k1 k2 : ByteArray) (w : World) (hp : IntsA w a l) (hm : l.length ≤ 9223372036854775807) (hs1 : k1.size ≤ 9223372036854775807) (hs2 : k2.size ≤ 9223372036854775807)
    (b1 : -9223372036854775808 ≤ W) (b2 : W ≤ 9223372036854775807) (hla : LaidC w) :
    Calls Tryd.prog 7 #[.agg #[.int .i64 W, .int .i64 S, .int .i64 A, .slice a l.length cap], .string k1, .string k2] w fun e w' => e = .returned (.bool true) ∧ Below w.heap.size w w' := by
  have LA := Lib.hid hla
  have HP := Lib.hid hp
  have SA := Lib.hid (fun (X : World) (h : LaidC X) => sane X h)
  have VR := Lib.hid (fun (X : World) (h : IntsA X a l) => validref_any W S A a cap l X h hm b1 b2)
  by_cases hok : l.length ≤ 300 ∧ k1.size ≤ 100 ∧ k2.size ≤ 100 ∧ Ok W S A l
  · obtain ⟨h3, h1, h2, ok⟩ := hok
    obtain ⟨N, rfl, hW, hl⟩ := ok.nat
    have N0 : 0 < N := by have := ok.pos; omega
    have OK := Lib.hid ok
    have a0 := ok.a0
    have a1 := ok.a1
    have s2 := ok.s2
    have AD := Lib.hid (fun (X : World) (h : IntsA X a l) (h2 : LaidC X) => add_any N S A a cap l k1 X h hl (by omega) hW ok.all a0 a1 s2 h2)
    have CA := Lib.hid (fun (X : World) (h : IntsA X a l) (h2 : LaidC X) => count_any N S A a cap l k1 X h hl (by omega) hW h2)
    have CB := Lib.hid (fun (X : World) (h : IntsA X a l) (h2 : LaidC X) => count_any N S A a cap l k2 X h hl (by omega) hW h2)
    obtain ⟨l2, hl2⟩ : ∃ l2, nxL N (pl k1) S A l = l2 := ⟨_, rfl⟩
    have hlen2 : l2.length = 4 * N := by
      rw [← hl2]; unfold nxL; split
      · rw [halve_len, addL_len, hl]
      · rw [addL_len, hl]
    obtain ⟨A2, hA2⟩ : ∃ x, nxA S A = x := ⟨_, rfl⟩
    rw [hl2, hA2] at AD
    have DA := Lib.hid (fun (X : World) (g c : Nat) (h : RowI X g l2) (h2 : LaidC X) => count_any N S A2 (some ⟨g, 0, none⟩) c l2 k1 X h.ints hlen2 (by omega) hW h2)
    have DB := Lib.hid (fun (X : World) (g c : Nat) (h : RowI X g l2) (h2 : LaidC X) => count_any N S A2 (some ⟨g, 0, none⟩) c l2 k2 X h.ints hlen2 (by omega) hW h2)
    have cA0 : 0 ≤ cnt N (pl k1) l := cnt_ge N (pl k1) l 0 (by omega) (fun r hr => (getD_small l ok.all _).1)
    have cB0 : 0 ≤ cnt N (pl k2) l := cnt_ge N (pl k2) l 0 (by omega) (fun r hr => (getD_small l ok.all _).1)
    have cA1 := cnt_le N (pl k1) l
    have cB1 := cnt_le N (pl k2) l
    have E1 := cnt_addL (pl k1) l N0 hl
    have E2 := cnt_other (pl k1) (pl k2) l N0 hl
    have E3 := cnt_halve N (pl k1) (addL N (pl k1) l) (fun r _ => (getD_small _ (addL_bd (pl k1) l N0 hl ok.all) _).2)
    have F1 : A + 1 = S → cnt N (pl k1) l2 = min (cnt N (pl k1) l + 1) 15 / 2 := fun h => by
      rw [← hl2]; unfold nxL; rw [if_pos h, E3, E1]
    have F2 : A + 1 ≠ S → cnt N (pl k1) l2 = min (cnt N (pl k1) l + 1) 15 ∧ cnt N (pl k2) l ≤ cnt N (pl k2) l2 ∧ cnt N (pl k2) l2 ≤ cnt N (pl k2) l + 1 := fun h => by
      rw [← hl2]; unfold nxL; rw [if_neg h]; exact ⟨E1, E2⟩
    have G1 : A + 1 = S → A2 = (A + 1) / 2 := fun h => by rw [← hA2]; unfold nxA; rw [if_pos h]
    have G2 : A + 1 ≠ S → A2 = A + 1 := fun h => by rw [← hA2]; unfold nxA; rw [if_neg h]
    have dA1 := cnt_le N (pl k1) l2
    have dB1 := cnt_le N (pl k2) l2
    obtain ⟨n, hn⟩ : ∃ n, l.length = n := ⟨_, rfl⟩
    have hn2 : l2.length = n := by rw [hlen2, ← hl, hn]
    rw [hn] at AD CA CB VR hm h3 ⊢
    rw [hn2] at DA DB
    generalize hcA : cnt N (pl k1) l = cA at *
    generalize hcB : cnt N (pl k2) l = cB at *
    generalize hdA : cnt N (pl k1) l2 = dA at *
    generalize hdB : cnt N (pl k2) l2 = dB at *
    clear E1 E2 E3 hcA hcB hdA hdB hlen2 hl2 hA2 hn hn2 hl hW N0 hla hp hs1 hs2 ok
    have t1 : decide ((300 : Int) < (n : Int)) = false := decide_eq_false (by omega)
    have t2 : decide ((100 : Int) < (k1.size : Int)) = false := decide_eq_false (by omega)
    have t3 : decide ((100 : Int) < (k2.size : Int)) = false := decide_eq_false (by omega)
    go_enter Tryd.func7, Tryd.ntmps7
    go_wp2_with fail
    refine (VR.out _ (HP.out.mono (by (repeat' (first | (with_reducible exact Below.refl _ _) | (with_reducible assumption) | (with_reducible refine Below.alloc ?_ ?_ _) | (with_reducible refine Below.drew ?_) | (with_reducible refine below_dn ?_) | (with_reducible refine Below.setCell ?_ ?_ _) | (with_reducible exact Nat.le_refl _) | omega | (simp only [World.size_alloc, World.size_setCell, World.size_drew]; omega) | (simp; omega) | (simp; done)))))).mono ?_
    rintro e w1 ⟨⟨b, rfl, hb0⟩, hb⟩
    obtain rfl : b = true := hb0.2 OK.out
    have K1 := Lib.hid (show Blk w1 w.heap.size 24 #[.int .i64 N, .int .i64 S, .int .i64 A, .slice a n cap] from (Blk.new' w _ _ _ rfl rfl).below hb (by simp))
    have B := Lib.hid (bt (show Below w.heap.size w (w.alloc (.cells #[.int .i64 N, .int .i64 S, .int .i64 A, .slice a n cap] 24)) by (repeat' (first | (with_reducible exact Below.refl _ _) | (with_reducible assumption) | (with_reducible refine Below.alloc ?_ ?_ _) | (with_reducible refine Below.drew ?_) | (with_reducible refine below_dn ?_) | (with_reducible refine Below.setCell ?_ ?_ _) | (with_reducible exact Nat.le_refl _) | omega | (simp only [World.size_alloc, World.size_setCell, World.size_drew]; omega) | (simp; omega) | (simp; done)))) hb)
    clear hb hb0 VR
    have d0 := K1.out.cell 0
    change _ = some (Value.int .i64 N) at d0
    have d1 := K1.out.cell 1
    change _ = some (Value.int .i64 S) at d1
    have d2 := K1.out.cell 2
    change _ = some (Value.int .i64 A) at d2
    have d3 := K1.out.cell 3
    change _ = some (Value.slice a n cap) at d3
    go_wp2_with fail
    refine (AD.out _ (HP.out.mono B.out) (LA.out.mono B.out)).mono ?_
    rintro e w2 ⟨⟨g, c, rfl, -, hg, hr⟩, hb⟩
    have K1 := Lib.hid ((K1.out.below hb K1.out.lt).alloc (.cells #[.int .i64 N, .int .i64 S, .int .i64 A2, .slice (some ⟨g, 0, none⟩) n c] 24))
    have R2 := Lib.hid (hr.alloc (.cells #[.int .i64 N, .int .i64 S, .int .i64 A2, .slice (some ⟨g, 0, none⟩) n c] 24))
    replace B := Lib.hid (let B' := bt B.out hb; B'.alloc B'.size (.cells #[.int .i64 N, .int .i64 S, .int .i64 A2, .slice (some ⟨g, 0, none⟩) n c] 24))
    obtain ⟨s2, hs2⟩ : ∃ s, w2.heap.size = s := ⟨_, rfl⟩
    have K2 := Lib.hid (show Blk (w2.alloc (.cells #[.int .i64 N, .int .i64 S, .int .i64 A2, .slice (some ⟨g, 0, none⟩) n c] 24)) s2 24 #[.int .i64 N, .int .i64 S, .int .i64 A2, .slice (some ⟨g, 0, none⟩) n c] from Blk.new' w2 _ _ _ hs2 rfl)
    clear hb hr hg AD d0 d1 d2 d3
    have d0 := K1.out.cell 0
    change _ = some (Value.int .i64 N) at d0
    have d1 := K1.out.cell 1
    change _ = some (Value.int .i64 S) at d1
    have d2 := K1.out.cell 2
    change _ = some (Value.int .i64 A) at d2
    have d3 := K1.out.cell 3
    change _ = some (Value.slice a n cap) at d3
    go_wp2_with fail
    refine (CA.out _ (HP.out.mono B.out) (LA.out.mono B.out)).mono ?_
    rintro e w3 ⟨rfl, hb⟩
    replace K1 := Lib.hid (K1.out.below hb K1.out.lt)
    replace K2 := Lib.hid (K2.out.below hb K2.out.lt)
    replace R2 := Lib.hid (R2.out.below hb R2.out.lt)
    replace B := Lib.hid (bt B.out hb)
    clear hb d0 d1 d2 d3
    have d0 := K1.out.cell 0
    change _ = some (Value.int .i64 N) at d0
    have d1 := K1.out.cell 1
    change _ = some (Value.int .i64 S) at d1
    have d2 := K1.out.cell 2
    change _ = some (Value.int .i64 A) at d2
    have d3 := K1.out.cell 3
    change _ = some (Value.slice a n cap) at d3
    go_wp2_with fail
    refine (CB.out _ (HP.out.mono B.out) (LA.out.mono B.out)).mono ?_
    rintro e w4 ⟨rfl, hb⟩
    replace K1 := Lib.hid (K1.out.below hb K1.out.lt)
    replace K2 := Lib.hid (K2.out.below hb K2.out.lt)
    replace R2 := Lib.hid (R2.out.below hb R2.out.lt)
    replace B := Lib.hid (bt B.out hb)
    clear hb d0 d1 d2 d3
    have kk2 : w4.cell? ⟨w.heap.size, 2, none⟩ = some (.int .i64 A) := K1.out.cell 2
    have d0 := K2.out.cell 0
    change _ = some (Value.int .i64 N) at d0
    have d1 := K2.out.cell 1
    change _ = some (Value.int .i64 S) at d1
    have d2 := K2.out.cell 2
    change _ = some (Value.int .i64 A2) at d2
    have d3 := K2.out.cell 3
    change _ = some (Value.slice (some ⟨g, 0, none⟩) n c) at d3
    have wr : IntKind.i64.wrap (A + 1) = A + 1 := by rw [IntKind.wrap_i64]; omega
    clear CA CB
    by_cases hS : A + 1 = S
    · have f1 := F1 hS
      have g1 := G1 hS
      clear F1 F2 G1 G2
      have wc : IntKind.i64.wrap (cA + 1) = cA + 1 := by rw [IntKind.wrap_i64]; omega
      have t4 : (A2 == A + 1) = false := beq_eq_false_iff_ne.mpr (by omega)
      have t5 : decide (A2 = A + 1) = false := decide_eq_false (by omega)
      have q1 : (A + 1).tdiv 2 = A2 := by rw [Int.tdiv_eq_ediv_of_nonneg (by omega), g1]
      have q2 : (min (cA + 1) 15).tdiv 2 = dA := by rw [Int.tdiv_eq_ediv_of_nonneg (by omega), f1]
      have q3 : (min 15 (cA + 1)).tdiv 2 = dA := by rw [Int.min_comm]; exact q2
      have w1' : IntKind.i64.wrap A2 = A2 := by rw [IntKind.wrap_i64]; omega
      have w2' : IntKind.i64.wrap dA = dA := by rw [IntKind.wrap_i64]; omega
      have d0A : 0 ≤ dA := by omega
      clear hS g1 f1
      go_wp2_with fail
      refine (SA.out _ (LA.out.mono B.out)).mono ?_
      rintro e w5 ⟨rfl, hb⟩
      replace K1 := Lib.hid (K1.out.below hb K1.out.lt)
      replace K2 := Lib.hid (K2.out.below hb K2.out.lt)
      replace R2 := Lib.hid (R2.out.below hb R2.out.lt)
      replace B := Lib.hid (bt B.out hb)
      clear hb d0 d1 d2 d3
      have kk2 : w5.cell? ⟨w.heap.size, 2, none⟩ = some (.int .i64 A) := K1.out.cell 2
      have d0 := K2.out.cell 0
      change _ = some (Value.int .i64 N) at d0
      have d1 := K2.out.cell 1
      change _ = some (Value.int .i64 S) at d1
      have d2 := K2.out.cell 2
      change _ = some (Value.int .i64 A2) at d2
      have d3 := K2.out.cell 3
      change _ = some (Value.slice (some ⟨g, 0, none⟩) n c) at d3
      go_wp2_with fail
      refine (DA.out _ g c R2.out (LA.out.mono B.out)).mono ?_
      rintro e w6 ⟨rfl, hb⟩
      replace K1 := Lib.hid (K1.out.below hb K1.out.lt)
      replace K2 := Lib.hid (K2.out.below hb K2.out.lt)
      replace R2 := Lib.hid (R2.out.below hb R2.out.lt)
      replace B := Lib.hid (bt B.out hb)
      clear hb d0 d1 d2 d3
      go_wp2_with fail
      trace_state
      go_ret
      exact ⟨rfl, B.out⟩
    · have f2 := F2 hS
      have g2 := G2 hS
      subst g2
      clear F1 F2 G1
      obtain ⟨f3, f4, f5⟩ := f2
      have wd : IntKind.i64.wrap (dB - cB) = dB - cB := by rw [IntKind.wrap_i64]; omega
      have wc : IntKind.i64.wrap (cA + 1) = cA + 1 := by rw [IntKind.wrap_i64]; omega
      go_wp2_with fail
      refine (DB.out _ g c R2.out (LA.out.mono B.out)).mono ?_
      rintro e w5 ⟨rfl, hb⟩
      replace K1 := Lib.hid (K1.out.below hb K1.out.lt)
      replace K2 := Lib.hid (K2.out.below hb K2.out.lt)
      replace R2 := Lib.hid (R2.out.below hb R2.out.lt)
      replace B := Lib.hid (bt B.out hb)
      clear hb d0 d1 d2 d3
      have d0 := K2.out.cell 0
      change _ = some (Value.int .i64 N) at d0
      have d1 := K2.out.cell 1
      change _ = some (Value.int .i64 S) at d1
      have d2 := K2.out.cell 2
      change _ = some (Value.int .i64 (A + 1)) at d2
      have d3 := K2.out.cell 3
      change _ = some (Value.slice (some ⟨g, 0, none⟩) n c) at d3
      obtain ⟨d, hd⟩ : ∃ d, dB - cB = d := ⟨_, rfl⟩
      have d50 : 0 ≤ d := by omega
      have d51 : d ≤ 1 := by omega
      have e1 : decide (0 ≤ d) = true := decide_eq_true d50
      have e2 : decide (d ≤ 1) = true := decide_eq_true d51
      go_wp2_with fail
      refine (SA.out _ (LA.out.mono B.out)).mono ?_
      rintro e w6 ⟨rfl, hb⟩
      replace K1 := Lib.hid (K1.out.below hb K1.out.lt)
      replace K2 := Lib.hid (K2.out.below hb K2.out.lt)
      replace R2 := Lib.hid (R2.out.below hb R2.out.lt)
      replace B := Lib.hid (bt B.out hb)
      clear hb d0 d1 d2 d3
      have d0 := K2.out.cell 0
      change _ = some (Value.int .i64 N) at d0
      have d1 := K2.out.cell 1
      change _ = some (Value.int .i64 S) at d1
      have d2 := K2.out.cell 2
      change _ = some (Value.int .i64 (A + 1)) at d2
      have d3 := K2.out.cell 3
      change _ = some (Value.slice (some ⟨g, 0, none⟩) n c) at d3
      go_wp2_with fail
      refine (DA.out _ g c R2.out (LA.out.mono B.out)).mono ?_
      rintro e w7 ⟨rfl, hb⟩
      replace K1 := Lib.hid (K1.out.below hb K1.out.lt)
      replace K2 := Lib.hid (K2.out.below hb K2.out.lt)
      replace R2 := Lib.hid (R2.out.below hb R2.out.lt)
      replace B := Lib.hid (bt B.out hb)
      clear hb d0 d1 d2 d3
      go_wp2_with fail
      go_ret
      exact ⟨rfl, B.out⟩

  · obtain ⟨n, hn⟩ : ∃ n, l.length = n := ⟨_, rfl⟩
    rw [hn] at VR hm ⊢
    have SB := Lib.hid (sane (w.alloc (.cells #[.int .i64 W, .int .i64 S, .int .i64 A, .slice a n cap] 24)) (hla.mono (by (repeat' (first | (with_reducible exact Below.refl _ _) | (with_reducible assumption) | (with_reducible refine Below.alloc ?_ ?_ _) | (with_reducible refine Below.drew ?_) | (with_reducible refine below_dn ?_) | (with_reducible refine Below.setCell ?_ ?_ _) | (with_reducible exact Nat.le_refl _) | omega | (simp only [World.size_alloc, World.size_setCell, World.size_drew]; omega) | (simp; omega) | (simp; done))))))
    by_cases h3 : n ≤ 300
    · have t1 : decide ((300 : Int) < (n : Int)) = false := decide_eq_false (by omega)
      by_cases h1 : k1.size ≤ 100
      · have t2 : decide ((100 : Int) < (k1.size : Int)) = false := decide_eq_false (by omega)
        by_cases h2 : k2.size ≤ 100
        · have t3 : decide ((100 : Int) < (k2.size : Int)) = false := decide_eq_false (by omega)
          have NO := Lib.hid (show ¬ Ok W S A l from fun h => hok ⟨by rw [hn]; exact h3, h1, h2, h⟩)
          clear hp hok hn hla SB
          go_enter Tryd.func7, Tryd.ntmps7
          go_wp2_with fail
          refine (VR.out _ (HP.out.mono (by (repeat' (first | (with_reducible exact Below.refl _ _) | (with_reducible assumption) | (with_reducible refine Below.alloc ?_ ?_ _) | (with_reducible refine Below.drew ?_) | (with_reducible refine below_dn ?_) | (with_reducible refine Below.setCell ?_ ?_ _) | (with_reducible exact Nat.le_refl _) | omega | (simp only [World.size_alloc, World.size_setCell, World.size_drew]; omega) | (simp; omega) | (simp; done)))))).mono ?_
          rintro e w1 ⟨⟨b, rfl, hb0⟩, hb⟩
          obtain rfl : b = false := by
            cases b
            · rfl
            · exact absurd (hb0.1 rfl) NO.out
          have B := Lib.hid (bt (show Below w.heap.size w (w.alloc (.cells #[.int .i64 W, .int .i64 S, .int .i64 A, .slice a n cap] 24)) by (repeat' (first | (with_reducible exact Below.refl _ _) | (with_reducible assumption) | (with_reducible refine Below.alloc ?_ ?_ _) | (with_reducible refine Below.drew ?_) | (with_reducible refine below_dn ?_) | (with_reducible refine Below.setCell ?_ ?_ _) | (with_reducible exact Nat.le_refl _) | omega | (simp only [World.size_alloc, World.size_setCell, World.size_drew]; omega) | (simp; omega) | (simp; done)))) hb)
          clear hb hb0 VR
          go_wp2_with fail
          refine (SA.out _ (LA.out.mono B.out)).mono ?_
          rintro e w2 ⟨rfl, hb⟩
          replace B := Lib.hid (bt B.out hb)
          clear hb
          go_wp2_with fail
          go_ret
          exact ⟨rfl, B.out⟩
        · have t3 : decide ((100 : Int) < (k2.size : Int)) = true := decide_eq_true (by omega)
          clear hp hok hn hla
          go_enter Tryd.func7, Tryd.ntmps7
          go_wp2_with fail
          refine SB.out.mono ?_
          rintro e w2 ⟨rfl, hb⟩
          have B := Lib.hid (bt (show Below w.heap.size w (w.alloc (.cells #[.int .i64 W, .int .i64 S, .int .i64 A, .slice a n cap] 24)) by (repeat' (first | (with_reducible exact Below.refl _ _) | (with_reducible assumption) | (with_reducible refine Below.alloc ?_ ?_ _) | (with_reducible refine Below.drew ?_) | (with_reducible refine below_dn ?_) | (with_reducible refine Below.setCell ?_ ?_ _) | (with_reducible exact Nat.le_refl _) | omega | (simp only [World.size_alloc, World.size_setCell, World.size_drew]; omega) | (simp; omega) | (simp; done)))) hb)
          clear hb
          go_wp2_with fail
          go_ret
          exact ⟨rfl, B.out⟩
      · have t2 : decide ((100 : Int) < (k1.size : Int)) = true := decide_eq_true (by omega)
        clear hp hok hn hla
        go_enter Tryd.func7, Tryd.ntmps7
        go_wp2_with fail
        refine SB.out.mono ?_
        rintro e w2 ⟨rfl, hb⟩
        have B := Lib.hid (bt (show Below w.heap.size w (w.alloc (.cells #[.int .i64 W, .int .i64 S, .int .i64 A, .slice a n cap] 24)) by (repeat' (first | (with_reducible exact Below.refl _ _) | (with_reducible assumption) | (with_reducible refine Below.alloc ?_ ?_ _) | (with_reducible refine Below.drew ?_) | (with_reducible refine below_dn ?_) | (with_reducible refine Below.setCell ?_ ?_ _) | (with_reducible exact Nat.le_refl _) | omega | (simp only [World.size_alloc, World.size_setCell, World.size_drew]; omega) | (simp; omega) | (simp; done)))) hb)
        clear hb
        go_wp2_with fail
        go_ret
        exact ⟨rfl, B.out⟩
    · have t1 : decide ((300 : Int) < (n : Int)) = true := decide_eq_true (by omega)
      clear hp hok hn hla
      go_enter Tryd.func7, Tryd.ntmps7
      go_wp2_with fail
      refine SB.out.mono ?_
      rintro e w2 ⟨rfl, hb⟩
      have B := Lib.hid (bt (show Below w.heap.size w (w.alloc (.cells #[.int .i64 W, .int .i64 S, .int .i64 A, .slice a n cap] 24)) by (repeat' (first | (with_reducible exact Below.refl _ _) | (with_reducible assumption) | (with_reducible refine Below.alloc ?_ ?_ _) | (with_reducible refine Below.drew ?_) | (with_reducible refine below_dn ?_) | (with_reducible refine Below.setCell ?_ ?_ _) | (with_reducible exact Nat.le_refl _) | omega | (simp only [World.size_alloc, World.size_setCell, World.size_drew]; omega) | (simp; omega) | (simp; done)))) hb)
      clear hb
      go_wp2_with fail
      go_ret
      exact ⟨rfl, B.out⟩
end Go.Proofs.YtmmjkhamknfhpaaDoor
