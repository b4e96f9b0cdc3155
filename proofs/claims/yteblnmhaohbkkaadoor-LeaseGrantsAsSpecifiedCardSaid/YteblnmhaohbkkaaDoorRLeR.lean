/- Contracts: Valid of the reference. -/
import Derived.Test.YteblnmhaohbkkaaDoorRLeV
import Derived.BigQuiet
import Derived.Lib.QuietBelow
namespace Go.Proofs.YteblnmhaohbkkaaDoor
set_option linter.unusedVariables false
set_option linter.unusedSimpArgs false
namespace Le
open Go.RowKit Go.Sort
theorem grow_cellG (w : World) (d : Nat) (os : Array Obj) (b o : Nat) (h : b < w.heap.size) : (grow (redrawn w d) os).cell? ⟨b, o, none⟩ = w.cell? ⟨b, o, none⟩ :=
  (below_regrown w d os).cell (p := ⟨b, o, none⟩) h
theorem rsite_yes {n : Int} (h : 0 ≤ n ∧ n < 64) (w : World) : Calls Tryd.prog 40 #[.int .i64 n] w fun e w' => e = .returned (.bool true) ∧ Below w.heap.size w w' := by
  have t1 : decide (0 ≤ n) = true := decide_eq_true h.1
  have t2 : decide (n < 64) = true := decide_eq_true h.2
  clear h
  go_enter Tryd.func40, Tryd.ntmps40
  go_wp2
  go_ret
  exact ⟨rfl, Below.refl _ _⟩
theorem rsite_no {n : Int} (h : ¬ (0 ≤ n ∧ n < 64)) (w : World) : Calls Tryd.prog 40 #[.int .i64 n] w fun e w' => e = .returned (.bool false) ∧ Below w.heap.size w w' := by
  by_cases h1 : 0 ≤ n
  · have t1 : decide (0 ≤ n) = true := decide_eq_true h1
    have t2 : decide (n < 64) = false := decide_eq_false (fun q => h ⟨h1, q⟩)
    clear h h1
    go_enter Tryd.func40, Tryd.ntmps40
    go_wp2
    go_ret
    exact ⟨rfl, Below.refl _ _⟩
  · have t1 : decide (0 ≤ n) = false := decide_eq_false h1
    clear h h1
    go_enter Tryd.func40, Tryd.ntmps40
    go_wp2
    go_ret
    exact ⟨rfl, Below.refl _ _⟩
set_option maxRecDepth 100000 in
set_option maxHeartbeats 2000000 in
theorem rvalid_h1 (la mo : Int) (a : Option Addr) (c : Nat) (l : List Gr) (w : World) (hp : GrA w a l) (hm : l.length ≤ 9223372036854775807) (h : la < 0) : Calls Tryd.prog 21 #[.agg #[.int .i64 la, .int .i64 mo, .slice a l.length c]] w fun e w' => e = .returned (.bool (validB la mo l)) ∧ Below w.heap.size w w' := by
  have E : validB la mo l = false := valid_head (by omega)
  rw [E]
  obtain ⟨N, hN⟩ : ∃ N, l.length = N := ⟨_, rfl⟩
  rw [hN]
  have t1 : decide (la < 0) = true := decide_eq_true (by omega)
  clear hp hm E hN h
  obtain ⟨G, hG⟩ : ∃ G, w.heap.size = G := ⟨_, rfl⟩
  have HG := Lib.hid hG
  have KB := Lib.hid (show Blk (w.alloc (.cells #[.int .i64 la, .int .i64 mo, .slice a N c] 24)) G 24 #[.int .i64 la, .int .i64 mo, .slice a N c] from Blk.new' w _ _ _ hG rfl)
  have B := Lib.hid (show Below w.heap.size w (w.alloc (.cells #[.int .i64 la, .int .i64 mo, .slice a N c] 24)) by (repeat' (first | (with_reducible exact Below.refl _ _) | (with_reducible assumption) | (with_reducible refine Below.alloc ?_ ?_ _) | (with_reducible refine Below.drew ?_) | (with_reducible refine below_dn ?_) | (with_reducible refine Below.setCell ?_ ?_ _) | (with_reducible exact Nat.le_refl _) | omega | (simp only [World.size_alloc, World.size_setCell, World.size_drew]; omega) | (simp; omega) | (simp; done))))
  go_enter Tryd.func21, Tryd.ntmps21
  go_upto_region 1 with (fail)
  try rw [hG]
  generalize hw0 : w.alloc (.cells #[.int .i64 la, .int .i64 mo, .slice a N c] 24) = w0 at KB B ⊢
  clear hw0 hG
  obtain ⟨b0, b1, b2⟩ := three KB.out
  go_wp2
  go_ret
  exact ⟨rfl, B.out⟩
set_option maxRecDepth 100000 in
set_option maxHeartbeats 2000000 in
theorem rvalid_h2 (la mo : Int) (a : Option Addr) (c : Nat) (l : List Gr) (w : World) (hp : GrA w a l) (hm : l.length ≤ 9223372036854775807) (h0 : ¬ la < 0) (h : 1099511627776 < la) : Calls Tryd.prog 21 #[.agg #[.int .i64 la, .int .i64 mo, .slice a l.length c]] w fun e w' => e = .returned (.bool (validB la mo l)) ∧ Below w.heap.size w w' := by
  have E : validB la mo l = false := valid_head (by omega)
  rw [E]
  obtain ⟨N, hN⟩ : ∃ N, l.length = N := ⟨_, rfl⟩
  rw [hN]
  have t1 : decide (la < 0) = false := decide_eq_false (by omega)
  have t2 : decide (1099511627776 < la) = true := decide_eq_true (by omega)
  clear hp hm E hN h0 h
  obtain ⟨G, hG⟩ : ∃ G, w.heap.size = G := ⟨_, rfl⟩
  have HG := Lib.hid hG
  have KB := Lib.hid (show Blk (w.alloc (.cells #[.int .i64 la, .int .i64 mo, .slice a N c] 24)) G 24 #[.int .i64 la, .int .i64 mo, .slice a N c] from Blk.new' w _ _ _ hG rfl)
  have B := Lib.hid (show Below w.heap.size w (w.alloc (.cells #[.int .i64 la, .int .i64 mo, .slice a N c] 24)) by (repeat' (first | (with_reducible exact Below.refl _ _) | (with_reducible assumption) | (with_reducible refine Below.alloc ?_ ?_ _) | (with_reducible refine Below.drew ?_) | (with_reducible refine below_dn ?_) | (with_reducible refine Below.setCell ?_ ?_ _) | (with_reducible exact Nat.le_refl _) | omega | (simp only [World.size_alloc, World.size_setCell, World.size_drew]; omega) | (simp; omega) | (simp; done))))
  go_enter Tryd.func21, Tryd.ntmps21
  go_upto_region 1 with (fail)
  try rw [hG]
  generalize hw0 : w.alloc (.cells #[.int .i64 la, .int .i64 mo, .slice a N c] 24) = w0 at KB B ⊢
  clear hw0 hG
  obtain ⟨b0, b1, b2⟩ := three KB.out
  go_wp2
  go_ret
  exact ⟨rfl, B.out⟩
set_option maxRecDepth 100000 in
set_option maxHeartbeats 2000000 in
theorem rvalid_h3 (la mo : Int) (a : Option Addr) (c : Nat) (l : List Gr) (w : World) (hp : GrA w a l) (hm : l.length ≤ 9223372036854775807) (h0 : ¬ la < 0) (h1 : ¬ 1099511627776 < la) (h : mo < 1) : Calls Tryd.prog 21 #[.agg #[.int .i64 la, .int .i64 mo, .slice a l.length c]] w fun e w' => e = .returned (.bool (validB la mo l)) ∧ Below w.heap.size w w' := by
  have E : validB la mo l = false := valid_head (by omega)
  rw [E]
  obtain ⟨N, hN⟩ : ∃ N, l.length = N := ⟨_, rfl⟩
  rw [hN]
  have t1 : decide (la < 0) = false := decide_eq_false (by omega)
  have t2 : decide (1099511627776 < la) = false := decide_eq_false (by omega)
  have t3 : decide (mo < 1) = true := decide_eq_true (by omega)
  clear hp hm E hN h0 h1 h
  obtain ⟨G, hG⟩ : ∃ G, w.heap.size = G := ⟨_, rfl⟩
  have HG := Lib.hid hG
  have KB := Lib.hid (show Blk (w.alloc (.cells #[.int .i64 la, .int .i64 mo, .slice a N c] 24)) G 24 #[.int .i64 la, .int .i64 mo, .slice a N c] from Blk.new' w _ _ _ hG rfl)
  have B := Lib.hid (show Below w.heap.size w (w.alloc (.cells #[.int .i64 la, .int .i64 mo, .slice a N c] 24)) by (repeat' (first | (with_reducible exact Below.refl _ _) | (with_reducible assumption) | (with_reducible refine Below.alloc ?_ ?_ _) | (with_reducible refine Below.drew ?_) | (with_reducible refine below_dn ?_) | (with_reducible refine Below.setCell ?_ ?_ _) | (with_reducible exact Nat.le_refl _) | omega | (simp only [World.size_alloc, World.size_setCell, World.size_drew]; omega) | (simp; omega) | (simp; done))))
  go_enter Tryd.func21, Tryd.ntmps21
  go_upto_region 1 with (fail)
  try rw [hG]
  generalize hw0 : w.alloc (.cells #[.int .i64 la, .int .i64 mo, .slice a N c] 24) = w0 at KB B ⊢
  clear hw0 hG
  obtain ⟨b0, b1, b2⟩ := three KB.out
  go_wp2
  go_ret
  exact ⟨rfl, B.out⟩
set_option maxRecDepth 100000 in
set_option maxHeartbeats 2000000 in
theorem rvalid_h4 (la mo : Int) (a : Option Addr) (c : Nat) (l : List Gr) (w : World) (hp : GrA w a l) (hm : l.length ≤ 9223372036854775807) (h0 : ¬ la < 0) (h1 : ¬ 1099511627776 < la) (h2 : ¬ mo < 1) (h : 3600000 < mo) : Calls Tryd.prog 21 #[.agg #[.int .i64 la, .int .i64 mo, .slice a l.length c]] w fun e w' => e = .returned (.bool (validB la mo l)) ∧ Below w.heap.size w w' := by
  have E : validB la mo l = false := valid_head (by omega)
  rw [E]
  obtain ⟨N, hN⟩ : ∃ N, l.length = N := ⟨_, rfl⟩
  rw [hN]
  have t1 : decide (la < 0) = false := decide_eq_false (by omega)
  have t2 : decide (1099511627776 < la) = false := decide_eq_false (by omega)
  have t3 : decide (mo < 1) = false := decide_eq_false (by omega)
  have t4 : decide (3600000 < mo) = true := decide_eq_true (by omega)
  clear hp hm E hN h0 h1 h2 h
  obtain ⟨G, hG⟩ : ∃ G, w.heap.size = G := ⟨_, rfl⟩
  have HG := Lib.hid hG
  have KB := Lib.hid (show Blk (w.alloc (.cells #[.int .i64 la, .int .i64 mo, .slice a N c] 24)) G 24 #[.int .i64 la, .int .i64 mo, .slice a N c] from Blk.new' w _ _ _ hG rfl)
  have B := Lib.hid (show Below w.heap.size w (w.alloc (.cells #[.int .i64 la, .int .i64 mo, .slice a N c] 24)) by (repeat' (first | (with_reducible exact Below.refl _ _) | (with_reducible assumption) | (with_reducible refine Below.alloc ?_ ?_ _) | (with_reducible refine Below.drew ?_) | (with_reducible refine below_dn ?_) | (with_reducible refine Below.setCell ?_ ?_ _) | (with_reducible exact Nat.le_refl _) | omega | (simp only [World.size_alloc, World.size_setCell, World.size_drew]; omega) | (simp; omega) | (simp; done))))
  go_enter Tryd.func21, Tryd.ntmps21
  go_upto_region 1 with (fail)
  try rw [hG]
  generalize hw0 : w.alloc (.cells #[.int .i64 la, .int .i64 mo, .slice a N c] 24) = w0 at KB B ⊢
  clear hw0 hG
  obtain ⟨b0, b1, b2⟩ := three KB.out
  go_wp2
  go_ret
  exact ⟨rfl, B.out⟩
set_option maxRecDepth 100000 in
set_option maxHeartbeats 4000000 in
theorem rvalid_m (la mo : Int) (a : Option Addr) (c : Nat) (l : List Gr) (w : World) (hp : GrA w a l) (hm : l.length ≤ 9223372036854775807) (h0 : 0 ≤ la ∧ la ≤ 1099511627776) (h1 : 1 ≤ mo ∧ mo ≤ 3600000) : Calls Tryd.prog 21 #[.agg #[.int .i64 la, .int .i64 mo, .slice a l.length c]] w fun e w' => e = .returned (.bool (validB la mo l)) ∧ Below w.heap.size w w' := by
  have HP := Lib.hid hp
  have HBAD := Lib.hid (fun (k : Nat) (hk : k < l.length) (h : ¬ rowOk la (l.getD k g0) ∨ 0 < k ∧ ¬ (l.getD (k - 1) g0).1 < (l.getD k g0).1) => valid_row (mo := mo) hk h)
  have HEND := Lib.hid (fun (h : ∀ j, j < l.length → rowOk la (l.getD j g0) ∧ (0 < j → (l.getD (j - 1) g0).1 < (l.getD j g0).1)) => valid_end ⟨h0, h1⟩ h)
  have a1 : decide (la < 0) = false := decide_eq_false (by omega)
  have a2 : decide (1099511627776 < la) = false := decide_eq_false (by omega)
  have a3 : decide (mo < 1) = false := decide_eq_false (by omega)
  have a4 : decide (3600000 < mo) = false := decide_eq_false (by omega)
  obtain ⟨R, hR⟩ : ∃ R, validB la mo l = R := ⟨_, rfl⟩
  obtain ⟨N, hN⟩ : ∃ N, l.length = N := ⟨_, rfl⟩
  have HE := Lib.hid hN
  simp only [hR, hN] at HBAD HEND
  rw [hN] at hm
  rw [hR, hN]
  have HMx := Lib.hid hm
  clear hp hR hN h0 h1 hm
  obtain ⟨G, hG⟩ : ∃ G, w.heap.size = G := ⟨_, rfl⟩
  have HG := Lib.hid hG
  have KB := Lib.hid (show Blk (w.alloc (.cells #[.int .i64 la, .int .i64 mo, .slice a N c] 24)) G 24 #[.int .i64 la, .int .i64 mo, .slice a N c] from Blk.new' w _ _ _ hG rfl)
  have B := Lib.hid (show Below w.heap.size w (w.alloc (.cells #[.int .i64 la, .int .i64 mo, .slice a N c] 24)) by (repeat' (first | (with_reducible exact Below.refl _ _) | (with_reducible assumption) | (with_reducible refine Below.alloc ?_ ?_ _) | (with_reducible refine Below.drew ?_) | (with_reducible refine below_dn ?_) | (with_reducible refine Below.setCell ?_ ?_ _) | (with_reducible exact Nat.le_refl _) | omega | (simp only [World.size_alloc, World.size_setCell, World.size_drew]; omega) | (simp; omega) | (simp; done))))
  go_enter Tryd.func21, Tryd.ntmps21
  go_upto_region 1 with (fail)
  try rw [hG]
  generalize hw0 : w.alloc (.cells #[.int .i64 la, .int .i64 mo, .slice a N c] 24) = w0 at KB B ⊢
  clear hw0 hG
  obtain ⟨b0, b1, b2⟩ := three KB.out
  go_wp2
  clear a1 a2 a3 a4
  go_loopw [3, 4] (fun u3 _ wr => ∃ k : Nat, k ≤ N ∧ u3 = .int .i64 k ∧ Hid (∀ j, j < k → rowOk la (l.getD j g0) ∧ (0 < j → (l.getD (j - 1) g0).1 < (l.getD j g0).1)) ∧ Hid (Blk wr G 24 #[.int .i64 la, .int .i64 mo, .slice a N c]) ∧ Hid (Below w.heap.size w wr)) (fun u3 _ _ => (N - intOf u3).toNat)
  case atStart => exact ⟨0, by omega, rfl, Lib.hid (fun j h => absurd h (by omega)), KB, B⟩
  case round =>
    clear KB B b0 b1 b2
    obtain ⟨k, hk, rfl, HJ, KB, B⟩ := hrel
    have hmx := HMx.out
    obtain ⟨b0, b1, b2⟩ := three KB.out
    by_cases hlt : k < N
    · have t0 : decide ((k : Int) < (N : Int)) = true := decide_eq_true (by omega)
      have wk : IntKind.i64.wrap ((k : Int) + 1) = (k : Int) + 1 := by rw [IntKind.wrap_i64]; omega
      obtain ⟨b, off, rfl, q0, q1, q2⟩ := at_ (HP.out.mono B.out) (k := k) (by rw [HE.out]; exact hlt)
      have hbad := HBAD.out k hlt
      obtain ⟨x, hx⟩ : ∃ y, l.getD k g0 = y := ⟨_, rfl⟩
      rw [hx] at q0 q1 q2 hbad
      obtain ⟨x1, x2, x3⟩ := x
      simp only at q0 q1 q2
      have HX := Lib.hid hx
      have BR := Lib.hid (fun (h : ¬ ((0 < k → (l.getD (k - 1) g0).1 < x1) ∧ rowOk la (x1, x2, x3))) => show R = false from by
        refine hbad ?_
        by_cases hr : rowOk la (x1, x2, x3)
        · refine .inr ?_
          have hkp : 0 < k := by
            apply Classical.byContradiction
            intro hn
            exact h ⟨fun q => absurd q hn, hr⟩
          exact ⟨hkp, by first | exact Int.not_lt.1 (fun q => h ⟨fun _ => q, hr⟩) | exact fun q => h ⟨fun _ => q, hr⟩⟩
        · exact .inl hr)
      have HS := Lib.hid (fun (h1 : 0 < k → (l.getD (k - 1) g0).1 < x1) (h2 : rowOk la (x1, x2, x3)) => show ∀ j, j < k + 1 → rowOk la (l.getD j g0) ∧ (0 < j → (l.getD (j - 1) g0).1 < (l.getD j g0).1) from fun j hj => by
        rcases Nat.lt_or_ge j k with h | h
        · exact HJ.out j h
        · obtain rfl : j = k := by omega
          rw [HX.out]
          exact ⟨h2, h1⟩)
      clear hbad hx
      have k0 : (0 : Int) ≤ (k : Int) := by omega
      have kN : (k : Int) < (N : Int) := by omega
      obtain ⟨g, hg⟩ : ∃ g, wr.heap.size = g := ⟨_, rfl⟩
      have KX := Lib.hid (show Blk (wr.alloc (.cells #[.int .i64 x1, .int .i64 x2, .int .i64 x3] 88)) g 88 #[.int .i64 x1, .int .i64 x2, .int .i64 x3] from Blk.new' wr _ _ _ hg rfl)
      replace KB := Lib.hid (KB.out.alloc (.cells #[.int .i64 x1, .int .i64 x2, .int .i64 x3] 88))
      replace B := Lib.hid (B.out.alloc B.out.size (.cells #[.int .i64 x1, .int .i64 x2, .int .i64 x3] 88))
      go_upto_region 7 with (fail)
      try rw [hg]
      generalize hwx : wr.alloc (.cells #[.int .i64 x1, .int .i64 x2, .int .i64 x3] 88) = wx at KX KB B ⊢
      clear hwx hg q0 q1 q2 b0 b1 b2
      obtain ⟨b0, b1, b2⟩ := three KB.out
      obtain ⟨d0, d1, d2⟩ := three KX.out
      by_cases e1 : 0 ≤ x1 ∧ x1 < 64
      · have RS := Lib.hid (fun (W : World) => rsite_yes e1 W)
        by_cases e2 : x2 < 0
        · have t2 : decide (x2 < 0) = true := decide_eq_true (by omega)
          have bx := BR.out (fun q => absurd q.2.2.1.1 (by show ¬ 0 ≤ x2; omega))
          subst bx
          clear BR HS
          have zzb := KB.out.lt
          have zzx := KX.out.lt
          have gc := grow_cellG
          go_wp2_with fail
          refine wp_region_quiet_below (by kernel_rfl) (by kernel_rfl) ?_
          repeat (go_big_quiet_step (first | (with_reducible exact Calls.regrown_of (RS.out _))))
          refine wpQuiet_nil ?_
          intro wy hw'
          obtain ⟨⟨dq, osq⟩, hw''⟩ := hw'
          have hb := (show Below wx.heap.size wx wy from hw'' ▸ below_regrown wx dq osq)
          clear hw'' gc zzb zzx b0 b1 b2 d0 d1 d2
          replace KB := Lib.hid (KB.out.below hb KB.out.lt)
          replace B := Lib.hid (B.out.trans (hb.mono B.out.size))
          clear hb KX
          go_wp2
          go_ret
          exact ⟨rfl, B.out⟩
        · have t2 : decide (x2 < 0) = false := decide_eq_false (by omega)
          by_cases e3 : la < x2
          · have t3 : decide (la < x2) = true := decide_eq_true (by omega)
            have bx := BR.out (fun q => absurd q.2.2.1.2 (by show ¬ x2 ≤ la; omega))
            subst bx
            clear BR HS
            have zzb := KB.out.lt
            have zzx := KX.out.lt
            have gc := grow_cellG
            go_wp2_with fail
            refine wp_region_quiet_below (by kernel_rfl) (by kernel_rfl) ?_
            repeat (go_big_quiet_step (first | (with_reducible exact Calls.regrown_of (RS.out _))))
            refine wpQuiet_nil ?_
            intro wy hw'
            obtain ⟨⟨dq, osq⟩, hw''⟩ := hw'
            have hb := (show Below wx.heap.size wx wy from hw'' ▸ below_regrown wx dq osq)
            clear hw'' gc zzb zzx b0 b1 b2 d0 d1 d2
            replace KB := Lib.hid (KB.out.below hb KB.out.lt)
            replace B := Lib.hid (B.out.trans (hb.mono B.out.size))
            clear hb KX
            go_wp2
            go_ret
            exact ⟨rfl, B.out⟩
          · have t3 : decide (la < x2) = false := decide_eq_false (by omega)
            by_cases e4 : x3 < 0
            · have t4 : decide (x3 < 0) = true := decide_eq_true (by omega)
              have bx := BR.out (fun q => absurd q.2.2.2.1 (by show ¬ 0 ≤ x3; omega))
              subst bx
              clear BR HS
              have zzb := KB.out.lt
              have zzx := KX.out.lt
              have gc := grow_cellG
              go_wp2_with fail
              refine wp_region_quiet_below (by kernel_rfl) (by kernel_rfl) ?_
              repeat (go_big_quiet_step (first | (with_reducible exact Calls.regrown_of (RS.out _))))
              refine wpQuiet_nil ?_
              intro wy hw'
              obtain ⟨⟨dq, osq⟩, hw''⟩ := hw'
              have hb := (show Below wx.heap.size wx wy from hw'' ▸ below_regrown wx dq osq)
              clear hw'' gc zzb zzx b0 b1 b2 d0 d1 d2
              replace KB := Lib.hid (KB.out.below hb KB.out.lt)
              replace B := Lib.hid (B.out.trans (hb.mono B.out.size))
              clear hb KX
              go_wp2
              go_ret
              exact ⟨rfl, B.out⟩
            · have t4 : decide (x3 < 0) = false := decide_eq_false (by omega)
              by_cases e5 : 1099511627776 < x3
              · have t5 : decide (1099511627776 < x3) = true := decide_eq_true (by omega)
                have bx := BR.out (fun q => absurd q.2.2.2.2 (by show ¬ x3 ≤ 1099511627776; omega))
                subst bx
                clear BR HS
                have zzb := KB.out.lt
                have zzx := KX.out.lt
                have gc := grow_cellG
                go_wp2_with fail
                refine wp_region_quiet_below (by kernel_rfl) (by kernel_rfl) ?_
                repeat (go_big_quiet_step (first | (with_reducible exact Calls.regrown_of (RS.out _))))
                refine wpQuiet_nil ?_
                intro wy hw'
                obtain ⟨⟨dq, osq⟩, hw''⟩ := hw'
                have hb := (show Below wx.heap.size wx wy from hw'' ▸ below_regrown wx dq osq)
                clear hw'' gc zzb zzx b0 b1 b2 d0 d1 d2
                replace KB := Lib.hid (KB.out.below hb KB.out.lt)
                replace B := Lib.hid (B.out.trans (hb.mono B.out.size))
                clear hb KX
                go_wp2
                go_ret
                exact ⟨rfl, B.out⟩
              · have t5 : decide (1099511627776 < x3) = false := decide_eq_false (by omega)
                have RO := Lib.hid (show rowOk la (x1, x2, x3) from ⟨e1, ⟨by show 0 ≤ x2; omega, by show x2 ≤ la; omega⟩, by show 0 ≤ x3; omega, by show x3 ≤ 1099511627776; omega⟩)
                clear e1 e2 e3 e4 e5
                by_cases hk0 : k = 0
                · subst hk0
                  have t6 : decide ((0 : Int) < ((0 : Nat) : Int)) = false := by simp
                  have LT := Lib.hid (show 0 < 0 → (l.getD (0 - 1) g0).1 < x1 from fun h => absurd h (by omega))
                  have zzb := KB.out.lt
                  have zzx := KX.out.lt
                  have gc := grow_cellG
                  go_wp2_with fail
                  refine wp_region_quiet_below (by kernel_rfl) (by kernel_rfl) ?_
                  repeat (go_big_quiet_step (first | (with_reducible exact Calls.regrown_of (RS.out _))))
                  refine wpQuiet_nil ?_
                  intro wy hw'
                  obtain ⟨⟨dq, osq⟩, hw''⟩ := hw'
                  have hb := (show Below wx.heap.size wx wy from hw'' ▸ below_regrown wx dq osq)
                  clear hw'' gc zzb zzx b0 b1 b2 d0 d1 d2
                  replace KB := Lib.hid (KB.out.below hb KB.out.lt)
                  replace B := Lib.hid (B.out.trans (hb.mono B.out.size))
                  clear hb KX
                  go_wp2
                  go_roundw
                  case rel => exact ⟨0 + 1, by omega, by go_num, Lib.hid (HS.out LT.out RO.out), KB, B⟩
                  case measure => simp [intOf]; omega
                · have t6 : decide ((0 : Int) < (k : Int)) = true := decide_eq_true (by omega)
                  obtain ⟨km, hkm⟩ : ∃ km, k = km + 1 := ⟨k - 1, by omega⟩
                  have wk1 : IntKind.i64.wrap ((k : Int) - 1) = (km : Int) := by rw [IntKind.wrap_i64]; omega
                  have wk2 : (k : Int) - 1 = (km : Int) := by omega
                  have m0 : (0 : Int) ≤ (km : Int) := by omega
                  have mN : (km : Int) < (N : Int) := by omega
                  obtain ⟨p0, p1, p2⟩ := cells_ (HP.out.mono B.out) (k := km) (by rw [HE.out]; omega) rfl
                  have zp := block_lt_of_cell p0
                  obtain ⟨y, hy⟩ : ∃ y, l.getD km g0 = y := ⟨_, rfl⟩
                  rw [hy] at p0 p1 p2
                  have HY := Lib.hid (show (l.getD (k - 1) g0).1 = y.1 by rw [show k - 1 = km by omega, hy])
                  clear hy
                  obtain ⟨y1, y2, y3⟩ := y
                  simp only at p0 p1 p2
                  by_cases e6 : x1 ≤ y1
                  · have t7 : decide (x1 ≤ y1) = true := decide_eq_true (by omega)
                    have bx := BR.out (fun q => absurd (q.1 (by omega)) (by rw [HY.out]; show ¬ y1 < x1; omega))
                    subst bx
                    clear BR HS
                    have zzb := KB.out.lt
                    have zzx := KX.out.lt
                    have gc := grow_cellG
                    go_wp2_with fail
                    refine wp_region_quiet_below (by kernel_rfl) (by kernel_rfl) ?_
                    repeat (go_big_quiet_step (first | (with_reducible exact Calls.regrown_of (RS.out _))))
                    refine wpQuiet_nil ?_
                    intro wy hw'
                    obtain ⟨⟨dq, osq⟩, hw''⟩ := hw'
                    have hb := (show Below wx.heap.size wx wy from hw'' ▸ below_regrown wx dq osq)
                    clear hw'' gc zzb zzx b0 b1 b2 d0 d1 d2
                    replace KB := Lib.hid (KB.out.below hb KB.out.lt)
                    replace B := Lib.hid (B.out.trans (hb.mono B.out.size))
                    clear hb KX
                    go_wp2
                    go_ret
                    exact ⟨rfl, B.out⟩
                  · have t7 : decide (x1 ≤ y1) = false := decide_eq_false (by omega)
                    have LT := Lib.hid (show 0 < k → (l.getD (k - 1) g0).1 < x1 from fun _ => by rw [HY.out]; show y1 < x1; omega)
                    clear e6
                    have zzb := KB.out.lt
                    have zzx := KX.out.lt
                    have gc := grow_cellG
                    go_wp2_with fail
                    refine wp_region_quiet_below (by kernel_rfl) (by kernel_rfl) ?_
                    repeat (go_big_quiet_step (first | (with_reducible exact Calls.regrown_of (RS.out _))))
                    refine wpQuiet_nil ?_
                    intro wy hw'
                    obtain ⟨⟨dq, osq⟩, hw''⟩ := hw'
                    have hb := (show Below wx.heap.size wx wy from hw'' ▸ below_regrown wx dq osq)
                    clear hw'' gc zzb zzx b0 b1 b2 d0 d1 d2
                    replace KB := Lib.hid (KB.out.below hb KB.out.lt)
                    replace B := Lib.hid (B.out.trans (hb.mono B.out.size))
                    clear hb KX
                    go_wp2
                    go_roundw
                    case rel => exact ⟨k + 1, by omega, by go_num, Lib.hid (HS.out LT.out RO.out), KB, B⟩
                    case measure => simp [intOf]; omega
      · have RS := Lib.hid (fun (W : World) => rsite_no e1 W)
        have bx := BR.out (fun q => e1 q.2.1)
        subst bx
        clear BR HS
        have zzb := KB.out.lt
        have zzx := KX.out.lt
        have gc := grow_cellG
        go_wp2_with fail
        refine wp_region_quiet_below (by kernel_rfl) (by kernel_rfl) ?_
        repeat (go_big_quiet_step (first | (with_reducible exact Calls.regrown_of (RS.out _))))
        refine wpQuiet_nil ?_
        intro wy hw'
        obtain ⟨⟨dq, osq⟩, hw''⟩ := hw'
        have hb := (show Below wx.heap.size wx wy from hw'' ▸ below_regrown wx dq osq)
        clear hw'' gc zzb zzx b0 b1 b2 d0 d1 d2
        replace KB := Lib.hid (KB.out.below hb KB.out.lt)
        replace B := Lib.hid (B.out.trans (hb.mono B.out.size))
        clear hb KX
        go_wp2
        go_ret
        exact ⟨rfl, B.out⟩
    · have hkN : N = k := by omega
      subst hkN
      have t0 : decide ((N : Int) < (N : Int)) = false := decide_eq_false (by omega)
      have en := HEND.out HJ.out
      subst en
      clear hlt hk
      go_wp2
      go_ret
      exact ⟨rfl, B.out⟩
theorem rvalid_any (la mo : Int) (a : Option Addr) (c : Nat) (l : List Gr) (w : World) (hp : GrA w a l) (hm : l.length ≤ 9223372036854775807) : Calls Tryd.prog 21 #[.agg #[.int .i64 la, .int .i64 mo, .slice a l.length c]] w fun e w' => e = .returned (.bool (validB la mo l)) ∧ Below w.heap.size w w' := by
  by_cases h1 : la < 0
  · exact rvalid_h1 la mo a c l w hp hm h1
  · by_cases h2 : 1099511627776 < la
    · exact rvalid_h2 la mo a c l w hp hm h1 h2
    · by_cases h3 : mo < 1
      · exact rvalid_h3 la mo a c l w hp hm h1 h2 h3
      · by_cases h4 : 3600000 < mo
        · exact rvalid_h4 la mo a c l w hp hm h1 h2 h3 h4
        · exact rvalid_m la mo a c l w hp hm ⟨by omega, by omega⟩ ⟨by omega, by omega⟩
end Le
end Go.Proofs.YteblnmhaohbkkaaDoor
