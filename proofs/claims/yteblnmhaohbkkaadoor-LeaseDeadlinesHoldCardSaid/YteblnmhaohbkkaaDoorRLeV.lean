import Derived.Test.YteblnmhaohbkkaaDoorRLMs
import Derived.BigQuiet
namespace Go.Proofs.YteblnmhaohbkkaaDoor
set_option linter.unusedVariables false
set_option linter.unusedSimpArgs false
set_option linter.unusedSectionVars false
namespace Le
open Go.RowKit
theorem oneb {X : World} {g : Nat} {t : TypeId} {v0 : Value} (h : Blk X g t #[v0]) : X.cell? ⟨g, 0, none⟩ = some v0 := h.cell 0
theorem three {X : World} {g : Nat} {t : TypeId} {v0 v1 v2 : Value} (h : Blk X g t #[v0, v1, v2]) : X.cell? ⟨g, 0, none⟩ = some v0 ∧ X.cell? ⟨g, 1, none⟩ = some v1 ∧ X.cell? ⟨g, 2, none⟩ = some v2 := ⟨h.cell 0, h.cell 1, h.cell 2⟩
theorem within_yes {n a b : Int} (h : a ≤ n ∧ n ≤ b) (w : World) : Calls Tryd.prog 35 #[.int .i64 n, .int .i64 a, .int .i64 b] w fun e w' => e = .returned (.bool true) ∧ w = w' := by
  have t1 : decide (a ≤ n) = true := decide_eq_true h.1
  have t2 : decide (n ≤ b) = true := decide_eq_true h.2
  clear h
  go_enter Tryd.func35, Tryd.ntmps35
  go_wp2
  go_ret
  exact ⟨rfl, rfl⟩
theorem within_no {n a b : Int} (h : ¬ (a ≤ n ∧ n ≤ b)) (w : World) : Calls Tryd.prog 35 #[.int .i64 n, .int .i64 a, .int .i64 b] w fun e w' => e = .returned (.bool false) ∧ w = w' := by
  by_cases h1 : a ≤ n
  · have t1 : decide (a ≤ n) = true := decide_eq_true h1
    have t2 : decide (n ≤ b) = false := decide_eq_false (fun q => h ⟨h1, q⟩)
    clear h h1
    go_enter Tryd.func35, Tryd.ntmps35
    go_wp2
    go_ret
    exact ⟨rfl, rfl⟩
  · have t1 : decide (a ≤ n) = false := decide_eq_false h1
    clear h h1
    go_enter Tryd.func35, Tryd.ntmps35
    go_wp2
    go_ret
    exact ⟨rfl, rfl⟩
theorem isSite_yes {n : Int} (h : 0 ≤ n ∧ n < 64) (w : World) : Calls Tryd.prog 34 #[.int .i64 n] w fun e w' => e = .returned (.bool true) ∧ w = w' := by
  have C := Lib.hid (fun W => within_yes (n := n) (a := 0) (b := 63) (by omega) W)
  clear h
  go_enter Tryd.func34, Tryd.ntmps34
  go_wp2_with fail
  refine (C.out _).mono ?_
  rintro e wz ⟨rfl, rfl⟩
  go_wp2
  go_ret
  exact ⟨rfl, rfl⟩
theorem isSite_no {n : Int} (h : ¬ (0 ≤ n ∧ n < 64)) (w : World) : Calls Tryd.prog 34 #[.int .i64 n] w fun e w' => e = .returned (.bool false) ∧ w = w' := by
  have C := Lib.hid (fun W => within_no (n := n) (a := 0) (b := 63) (by omega) W)
  clear h
  go_enter Tryd.func34, Tryd.ntmps34
  go_wp2_with fail
  refine (C.out _).mono ?_
  rintro e wz ⟨rfl, rfl⟩
  go_wp2
  go_ret
  exact ⟨rfl, rfl⟩
def lastV (l : List Gr) (k : Nat) : Int := if k = 0 then -1 else (l.getD (k - 1) g0).1
set_option maxRecDepth 100000 in
set_option maxHeartbeats 2000000 in
theorem valid_h1 (la mo : Int) (a : Option Addr) (c : Nat) (l : List Gr) (w : World) (hp : GrA w a l) (hm : l.length ≤ 9223372036854775807) (h : ¬ (0 ≤ la ∧ la ≤ 1099511627776)) : Calls Tryd.prog 20 #[.agg #[.int .i64 la, .int .i64 mo, .slice a l.length c]] w fun e w' => e = .returned (.bool (validB la mo l)) ∧ Below w.heap.size w w' := by
  have E : validB la mo l = false := valid_head (by omega)
  rw [E]
  obtain ⟨N, hN⟩ : ∃ N, l.length = N := ⟨_, rfl⟩
  rw [hN]
  clear hp hm E
  have C1 := Lib.hid (fun W => within_no h W)
  clear h
  obtain ⟨G, hG⟩ : ∃ G, w.heap.size = G := ⟨_, rfl⟩
  have HG := Lib.hid hG
  have KB := Lib.hid (show Blk (w.alloc (.cells #[.int .i64 la, .int .i64 mo, .slice a N c] 24)) G 24 #[.int .i64 la, .int .i64 mo, .slice a N c] from Blk.new' w _ _ _ hG rfl)
  have B := Lib.hid (show Below w.heap.size w (w.alloc (.cells #[.int .i64 la, .int .i64 mo, .slice a N c] 24)) by (repeat' (first | (with_reducible exact Below.refl _ _) | (with_reducible assumption) | (with_reducible refine Below.alloc ?_ ?_ _) | (with_reducible refine Below.drew ?_) | (with_reducible refine below_dn ?_) | (with_reducible refine Below.setCell ?_ ?_ _) | (with_reducible exact Nat.le_refl _) | omega | (simp only [World.size_alloc, World.size_setCell, World.size_drew]; omega) | (simp; omega) | (simp; done))))
  go_enter Tryd.func20, Tryd.ntmps20
  go_upto_region 1 with (fail)
  try rw [hG]
  generalize hw0 : w.alloc (.cells #[.int .i64 la, .int .i64 mo, .slice a N c] 24) = w0 at KB B ⊢
  clear hw0 hG
  obtain ⟨b0, b1, b2⟩ := three KB.out
  go_wp2_with fail
  refine (C1.out _).mono ?_
  rintro e wz ⟨rfl, rfl⟩
  go_wp2
  go_ret
  exact ⟨rfl, B.out⟩
set_option maxRecDepth 100000 in
set_option maxHeartbeats 2000000 in
theorem valid_h2 (la mo : Int) (a : Option Addr) (c : Nat) (l : List Gr) (w : World) (hp : GrA w a l) (hm : l.length ≤ 9223372036854775807) (h0 : 0 ≤ la ∧ la ≤ 1099511627776) (h : ¬ (1 ≤ mo ∧ mo ≤ 3600000)) : Calls Tryd.prog 20 #[.agg #[.int .i64 la, .int .i64 mo, .slice a l.length c]] w fun e w' => e = .returned (.bool (validB la mo l)) ∧ Below w.heap.size w w' := by
  have E : validB la mo l = false := valid_head (by omega)
  rw [E]
  obtain ⟨N, hN⟩ : ∃ N, l.length = N := ⟨_, rfl⟩
  rw [hN]
  clear hp hm E
  have C1 := Lib.hid (fun W => within_yes h0 W)
  have C2 := Lib.hid (fun W => within_no h W)
  clear h h0
  obtain ⟨G, hG⟩ : ∃ G, w.heap.size = G := ⟨_, rfl⟩
  have HG := Lib.hid hG
  have KB := Lib.hid (show Blk (w.alloc (.cells #[.int .i64 la, .int .i64 mo, .slice a N c] 24)) G 24 #[.int .i64 la, .int .i64 mo, .slice a N c] from Blk.new' w _ _ _ hG rfl)
  have B := Lib.hid (show Below w.heap.size w (w.alloc (.cells #[.int .i64 la, .int .i64 mo, .slice a N c] 24)) by (repeat' (first | (with_reducible exact Below.refl _ _) | (with_reducible assumption) | (with_reducible refine Below.alloc ?_ ?_ _) | (with_reducible refine Below.drew ?_) | (with_reducible refine below_dn ?_) | (with_reducible refine Below.setCell ?_ ?_ _) | (with_reducible exact Nat.le_refl _) | omega | (simp only [World.size_alloc, World.size_setCell, World.size_drew]; omega) | (simp; omega) | (simp; done))))
  go_enter Tryd.func20, Tryd.ntmps20
  go_upto_region 1 with (fail)
  try rw [hG]
  generalize hw0 : w.alloc (.cells #[.int .i64 la, .int .i64 mo, .slice a N c] 24) = w0 at KB B ⊢
  clear hw0 hG
  obtain ⟨b0, b1, b2⟩ := three KB.out
  go_wp2_with fail
  refine (C1.out _).mono ?_
  rintro e wz ⟨rfl, rfl⟩
  go_wp2_with fail
  refine (C2.out _).mono ?_
  rintro e wz ⟨rfl, rfl⟩
  go_wp2
  go_ret
  exact ⟨rfl, B.out⟩
set_option maxRecDepth 100000 in
set_option maxHeartbeats 4000000 in
theorem valid_m (la mo : Int) (a : Option Addr) (c : Nat) (l : List Gr) (w : World) (hp : GrA w a l) (hm : l.length ≤ 9223372036854775807) (h0 : 0 ≤ la ∧ la ≤ 1099511627776) (h1 : 1 ≤ mo ∧ mo ≤ 3600000) : Calls Tryd.prog 20 #[.agg #[.int .i64 la, .int .i64 mo, .slice a l.length c]] w fun e w' => e = .returned (.bool (validB la mo l)) ∧ Below w.heap.size w w' := by
  have HP := Lib.hid hp
  have HBAD := Lib.hid (fun (k : Nat) (hk : k < l.length) (h : ¬ rowOk la (l.getD k g0) ∨ 0 < k ∧ ¬ (l.getD (k - 1) g0).1 < (l.getD k g0).1) => valid_row (mo := mo) hk h)
  have HEND := Lib.hid (fun (h : ∀ j, j < l.length → rowOk la (l.getD j g0) ∧ (0 < j → (l.getD (j - 1) g0).1 < (l.getD j g0).1)) => valid_end ⟨h0, h1⟩ h)
  have C1 := Lib.hid (fun W => within_yes h0 W)
  have C2 := Lib.hid (fun W => within_yes h1 W)
  obtain ⟨R, hR⟩ : ∃ R, validB la mo l = R := ⟨_, rfl⟩
  obtain ⟨N, hN⟩ : ∃ N, l.length = N := ⟨_, rfl⟩
  have HE := Lib.hid hN
  simp only [hR, hN] at HBAD HEND
  rw [hN] at hm
  rw [hR, hN]
  have HMx := Lib.hid hm
  clear hp hR hN h0 h1 hm
  obtain ⟨G, hG⟩ : ∃ G, w.heap.size = G := ⟨_, rfl⟩
  have HG := Lib.hid hG
  have KB := Lib.hid (show Blk (w.alloc (.cells #[.int .i64 la, .int .i64 mo, .slice a N c] 24)) G 24 #[.int .i64 la, .int .i64 mo, .slice a N c] from Blk.new' w _ _ _ hG rfl)
  have B := Lib.hid (show Below w.heap.size w (w.alloc (.cells #[.int .i64 la, .int .i64 mo, .slice a N c] 24)) by (repeat' (first | (with_reducible exact Below.refl _ _) | (with_reducible assumption) | (with_reducible refine Below.alloc ?_ ?_ _) | (with_reducible refine Below.drew ?_) | (with_reducible refine below_dn ?_) | (with_reducible refine Below.setCell ?_ ?_ _) | (with_reducible exact Nat.le_refl _) | omega | (simp only [World.size_alloc, World.size_setCell, World.size_drew]; omega) | (simp; omega) | (simp; done))))
  go_enter Tryd.func20, Tryd.ntmps20
  go_upto_region 1 with (fail)
  try rw [hG]
  generalize hw0 : w.alloc (.cells #[.int .i64 la, .int .i64 mo, .slice a N c] 24) = w0 at KB B ⊢
  clear hw0 hG
  obtain ⟨b0, b1, b2⟩ := three KB.out
  go_wp2_with fail
  refine (C1.out _).mono ?_
  rintro e wz ⟨rfl, rfl⟩
  go_wp2_with fail
  refine (C2.out _).mono ?_
  rintro e wz ⟨rfl, rfl⟩
  go_wp2
  clear C1 C2
  go_loopw [19, 3, 5] (fun u19 u3 _ wr => ∃ k : Nat, k ≤ N ∧ u19 = .int .i64 k ∧ u3 = .int .i64 (lastV l k) ∧ Hid (∀ j, j < k → rowOk la (l.getD j g0) ∧ (0 < j → (l.getD (j - 1) g0).1 < (l.getD j g0).1)) ∧ Hid (Blk wr G 24 #[.int .i64 la, .int .i64 mo, .slice a N c]) ∧ Hid (Below w.heap.size w wr)) (fun u19 _ _ _ => (N - intOf u19).toNat)
  case atStart => exact ⟨0, by omega, rfl, rfl, Lib.hid (fun j h => absurd h (by omega)), KB, B⟩
  case round =>
    clear KB B b0 b1 b2
    obtain ⟨k, hk, rfl, rfl, HJ, KB, B⟩ := hrel
    have hmx := HMx.out
    by_cases hlt : k < N
    · have t0 : decide ((k : Int) < (N : Int)) = true := decide_eq_true (by omega)
      have wk : IntKind.i64.wrap ((k : Int) + 1) = (k : Int) + 1 := by rw [IntKind.wrap_i64]; omega
      obtain ⟨b, off, rfl, q0, q1, q2⟩ := at_ (HP.out.mono B.out) (k := k) (by rw [HE.out]; exact hlt)
      have hbad := HBAD.out k hlt
      obtain ⟨p, hp⟩ : ∃ p, lastV l k = p := ⟨_, rfl⟩
      have hpk : (k = 0 ∧ p = -1) ∨ (0 < k ∧ p = (l.getD (k - 1) g0).1) := by
        unfold lastV at hp
        split at hp
        · exact .inl ⟨by assumption, hp.symm⟩
        · exact .inr ⟨by omega, hp.symm⟩
      rw [hp]
      obtain ⟨x, hx⟩ : ∃ y, l.getD k g0 = y := ⟨_, rfl⟩
      have hnx : lastV l (k + 1) = x.1 := by unfold lastV; rw [if_neg (by omega), Nat.add_sub_cancel, hx]
      rw [hx] at q0 q1 q2 hbad
      obtain ⟨x1, x2, x3⟩ := x
      simp only at q0 q1 q2 hnx
      have HX := Lib.hid hx
      have BR := Lib.hid (fun (h : ¬ (p < x1 ∧ rowOk la (x1, x2, x3))) => show R = false from by
        refine hbad ?_
        by_cases hr : rowOk la (x1, x2, x3)
        · refine .inr ?_
          have hr2 : 0 ≤ x1 := hr.1.1
          rcases hpk with ⟨e1, e2⟩ | ⟨e1, e2⟩
          · exact absurd ⟨by omega, hr⟩ h
          · exact ⟨e1, by first | exact Int.not_lt.1 (fun q => h ⟨by omega, hr⟩) | exact fun q => h ⟨by omega, hr⟩⟩
        · exact .inl hr)
      have HS := Lib.hid (fun (h1 : p < x1) (h2 : rowOk la (x1, x2, x3)) => show ∀ j, j < k + 1 → rowOk la (l.getD j g0) ∧ (0 < j → (l.getD (j - 1) g0).1 < (l.getD j g0).1) from fun j hj => by
        rcases Nat.lt_or_ge j k with h | h
        · exact HJ.out j h
        · obtain rfl : j = k := by omega
          rw [HX.out]
          refine ⟨h2, fun q => ?_⟩
          rcases hpk with ⟨e1, e2⟩ | ⟨e1, e2⟩
          · omega
          · rw [← e2]; exact h1)
      have HNX := Lib.hid hnx
      clear hbad hp hpk hx hnx
      have k0 : (0 : Int) ≤ (k : Int) := by omega
      have kN : (k : Int) < (N : Int) := by omega
      obtain ⟨g, hg⟩ : ∃ g, wr.heap.size = g := ⟨_, rfl⟩
      have KX := Lib.hid (show Blk (wr.alloc (.cells #[.int .i64 x1, .int .i64 x2, .int .i64 x3] 88)) g 88 #[.int .i64 x1, .int .i64 x2, .int .i64 x3] from Blk.new' wr _ _ _ hg rfl)
      replace KB := Lib.hid (KB.out.alloc (.cells #[.int .i64 x1, .int .i64 x2, .int .i64 x3] 88))
      replace B := Lib.hid (B.out.alloc B.out.size (.cells #[.int .i64 x1, .int .i64 x2, .int .i64 x3] 88))
      go_upto_region 7 with (fail)
      try rw [hg]
      generalize hwx : wr.alloc (.cells #[.int .i64 x1, .int .i64 x2, .int .i64 x3] 88) = wx at KX KB B ⊢
      clear hwx hg q0 q1 q2
      obtain ⟨b0, b1, b2⟩ := three KB.out
      obtain ⟨d0, d1, d2⟩ := three KX.out
      by_cases e0 : x1 ≤ p
      · have t1 : decide (x1 ≤ p) = true := decide_eq_true e0
        have bx := BR.out (fun q => by omega)
        subst bx
        clear e0
        go_wp2
        go_ret
        exact ⟨rfl, B.out⟩
      · have t1 : decide (x1 ≤ p) = false := decide_eq_false e0
        have E0 := Lib.hid (show p < x1 by omega)
        clear e0
        by_cases e1 : 0 ≤ x1 ∧ x1 < 64
        · have R1 := Lib.hid (fun W => isSite_yes e1 W)
          by_cases e2 : 0 ≤ x2 ∧ x2 ≤ la
          · have R2 := Lib.hid (fun W => within_yes e2 W)
            by_cases e3 : 0 ≤ x3 ∧ x3 ≤ 1099511627776
            · have R3 := Lib.hid (fun W => within_yes e3 W)
              have RO := Lib.hid (show rowOk la (x1, x2, x3) from ⟨e1, e2, e3⟩)
              clear e1 e2 e3
              go_wp2_with fail
              refine (R1.out _).mono ?_
              rintro e wz ⟨rfl, rfl⟩
              go_wp2_with fail
              refine (R2.out _).mono ?_
              rintro e wz ⟨rfl, rfl⟩
              go_wp2_with fail
              refine (R3.out _).mono ?_
              rintro e wz ⟨rfl, rfl⟩
              go_wp2
              go_roundw
              case rel => exact ⟨k + 1, by omega, by go_num, by rw [HNX.out], Lib.hid (HS.out E0.out RO.out), KB, B⟩
              case measure => simp [intOf]; omega
            · have R3 := Lib.hid (fun W => within_no e3 W)
              have bx := BR.out (fun q => e3 q.2.2.2)
              subst bx
              clear e1 e2 e3
              go_wp2_with fail
              refine (R1.out _).mono ?_
              rintro e wz ⟨rfl, rfl⟩
              go_wp2_with fail
              refine (R2.out _).mono ?_
              rintro e wz ⟨rfl, rfl⟩
              go_wp2_with fail
              refine (R3.out _).mono ?_
              rintro e wz ⟨rfl, rfl⟩
              go_wp2
              go_ret
              exact ⟨rfl, B.out⟩
          · have R2 := Lib.hid (fun W => within_no e2 W)
            have bx := BR.out (fun q => e2 q.2.2.1)
            subst bx
            clear e1 e2
            go_wp2_with fail
            refine (R1.out _).mono ?_
            rintro e wz ⟨rfl, rfl⟩
            go_wp2_with fail
            refine (R2.out _).mono ?_
            rintro e wz ⟨rfl, rfl⟩
            go_wp2
            go_ret
            exact ⟨rfl, B.out⟩
        · have R1 := Lib.hid (fun W => isSite_no e1 W)
          have bx := BR.out (fun q => e1 q.2.1)
          subst bx
          clear e1
          go_wp2_with fail
          refine (R1.out _).mono ?_
          rintro e wz ⟨rfl, rfl⟩
          go_wp2
          go_ret
          exact ⟨rfl, B.out⟩
    · have hkN : N = k := by omega
      subst hkN
      have t0 : decide ((N : Int) < (N : Int)) = false := decide_eq_false (by omega)
      have en := HEND.out HJ.out
      subst en
      clear hlt hk
      go_wp2
      go_ret
      exact ⟨rfl, B.out⟩
theorem valid_any (la mo : Int) (a : Option Addr) (c : Nat) (l : List Gr) (w : World) (hp : GrA w a l) (hm : l.length ≤ 9223372036854775807) : Calls Tryd.prog 20 #[.agg #[.int .i64 la, .int .i64 mo, .slice a l.length c]] w fun e w' => e = .returned (.bool (validB la mo l)) ∧ Below w.heap.size w w' := by
  by_cases h0 : 0 ≤ la ∧ la ≤ 1099511627776
  · by_cases h1 : 1 ≤ mo ∧ mo ≤ 3600000
    · exact valid_m la mo a c l w hp hm h0 h1
    · exact valid_h2 la mo a c l w hp hm h0 h1
  · exact valid_h1 la mo a c l w hp hm h0
end Le
end Go.Proofs.YteblnmhaohbkkaaDoor
