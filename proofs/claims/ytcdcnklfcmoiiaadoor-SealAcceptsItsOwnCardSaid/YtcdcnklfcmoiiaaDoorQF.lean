/- Contracts: rings; Find, and where a party's keys lie. -/
import Derived.Test.YtcdcnklfcmoiiaaDoorQPL
import Derived.BigQuiet
import Derived.Lib.QuietBelow
namespace Go.Proofs.YtcdcnklfcmoiiaaDoor
set_option linter.unusedVariables false
set_option linter.unusedSimpArgs false
open Go.RowKit Go.Sort
theorem grow_cell3 (w : World) (d : Nat) (os : Array Obj) (b o : Nat) (h : b < w.heap.size) : (grow (redrawn w d) os).cell? ⟨b, o, none⟩ = w.cell? ⟨b, o, none⟩ :=
  (below_regrown w d os).cell (p := ⟨b, o, none⟩) h
theorem below_of_grow3 {W W' : World} {d : Nat} {os : Array Obj} (h : W' = grow (redrawn W d) os) : Below W.heap.size W W' := h ▸ below_regrown W d os
theorem getD_mem {l : List Rw} {k : Nat} (h : k < l.length) : l.getD k r0 ∈ l := by rw [getEl h]; exact List.getElem_mem _
def ringB (l : List Rw) : Bool := decide (RingOk l)
theorem ring_bad {l : List Rw} {k : Nat} (hk : k < l.length) (h : ¬ keyOk (l.getD k r0) ∨ 0 < k ∧ ¬ ltR (l.getD (k - 1) r0) (l.getD k r0)) : ringB l = false := by
  unfold ringB
  apply decide_eq_false
  intro r
  rcases h with h | ⟨h0, h⟩
  · exact h (r.keys k hk)
  · have := r.ord (k - 1) (by omega)
    rw [show k - 1 + 1 = k by omega] at this
    exact h this
theorem ring_end {l : List Rw} (h : ∀ j, j < l.length → keyOk (l.getD j r0) ∧ (0 < j → ltR (l.getD (j - 1) r0) (l.getD j r0))) : ringB l = decide (l.length ≤ 1000) := by
  unfold ringB
  apply decide_eq_decide.mpr
  exact ⟨fun r => r.few, fun q => ⟨fun k hk => (h k hk).1, fun i hi => by have := (h (i + 1) hi).2 (by omega); rwa [show i + 1 - 1 = i by omega] at this, q⟩⟩
set_option maxRecDepth 100000 in
set_option maxHeartbeats 2000000 in
theorem ring_any (a : Option Addr) (c : Nat) (l : List Rw) (w : World) (hp : RwA w a l) (hm : l.length ≤ 9223372036854775807) :
    Calls Tryd.prog 11 #[.slice a l.length c] w fun e w' => e = .returned (.bool (ringB l)) ∧ Below w.heap.size w w' := by
  have HP := Lib.hid hp
  obtain ⟨N, hN⟩ : ∃ N, l.length = N := ⟨_, rfl⟩
  have HE := Lib.hid hN
  have HBAD := Lib.hid (fun (k : Nat) (hk : k < l.length) (h : ¬ keyOk (l.getD k r0) ∨ 0 < k ∧ ¬ ltR (l.getD (k - 1) r0) (l.getD k r0)) => ring_bad hk h)
  have HEND := Lib.hid (fun (h : ∀ j, j < l.length → keyOk (l.getD j r0) ∧ (0 < j → ltR (l.getD (j - 1) r0) (l.getD j r0))) => ring_end h)
  obtain ⟨R, hR⟩ : ∃ R, ringB l = R := ⟨_, rfl⟩
  rw [hR] at HBAD HEND ⊢
  rw [hN] at HBAD HEND hm ⊢
  clear hp hN hR
  go_enter Tryd.func11, Tryd.ntmps11
  go_wp2
  go_loopw [3, 4] (fun u3 _ wr => ∃ k : Nat, k ≤ N ∧ u3 = .int .i64 k ∧ Hid (∀ j, j < k → keyOk (l.getD j r0) ∧ (0 < j → ltR (l.getD (j - 1) r0) (l.getD j r0))) ∧ Hid (Below w.heap.size w wr)) (fun u3 _ _ => N - (intOf u3).toNat)
  case atStart => exact ⟨0, by omega, rfl, Lib.hid (fun j h => absurd h (by omega)), Lib.hid (Below.refl _ _)⟩
  case round =>
    obtain ⟨k, hk, rfl, HJ, B⟩ := hrel
    by_cases hlt : k < N
    · have t0 : decide ((k : Int) < (N : Int)) = true := decide_eq_true (by omega)
      have wk : IntKind.i64.wrap ((k : Int) + 1) = (k : Int) + 1 := by rw [IntKind.wrap_i64]; omega
      obtain ⟨b, off, rfl, q0, q1, q2, q3, q4⟩ := RwA.at_ (HP.out.mono B.out) (k := k) (by rw [HE.out]; exact hlt)
      obtain ⟨x, hx⟩ : ∃ y, l.getD k r0 = y := ⟨_, rfl⟩
      rw [hx] at q0 q1 q2 q3 q4
      have HX := Lib.hid hx
      clear hx
      have k0 : (0 : Int) ≤ (k : Int) := by omega
      have kN : (k : Int) < (N : Int) := by omega
      have RV := Lib.hid (fun W : World => rvalid_any x W)
      by_cases e1 : keyOk x
      · have v1 : keyB x = true := decide_eq_true e1
        have E1 := Lib.hid e1
        rw [v1] at RV
        clear e1 v1
        obtain ⟨x1, x2, x3, x4, x5⟩ := x
        simp only [encR] at q0 q1 q2 q3 q4 RV
        go_wp2_with fail
        refine (RV.out _).mono ?_
        rintro e w2 ⟨rfl, hb⟩
        clear q0 q1 q2 q3 q4
        replace B := Lib.hid (bt B.out hb)
        clear hb RV
        obtain ⟨q0, q1, q2, q3, q4⟩ := RwA.cells_ (HP.out.mono B.out) (k := k) (by rw [HE.out]; exact hlt) rfl
        rw [HX.out] at q0 q1 q2 q3 q4
        simp only at q0 q1 q2 q3 q4
        have zq := block_lt_of_cell q0
        by_cases hk0 : k = 0
        · have t8 : decide ((0 : Int) < (k : Int)) = false := decide_eq_false (by omega)
          have t8b : decide (0 < k) = false := decide_eq_false (by omega)
          have HS := Lib.hid (show ∀ j, j < k + 1 → keyOk (l.getD j r0) ∧ (0 < j → ltR (l.getD (j - 1) r0) (l.getD j r0)) from fun j hj => by
            rcases Nat.lt_or_ge j k with h | h
            · exact HJ.out j h
            · obtain rfl : j = k := by omega
              exact ⟨by rw [HX.out]; exact E1.out, fun q => absurd q (by omega)⟩)
          clear hk0
          have gc := grow_cell3
          go_wp2_with fail
          refine wp_region_quiet_below (by kernel_rfl) (by kernel_rfl) ?_
          repeat (go_big_quiet_step (fail))
          refine wpQuiet_nil ?_
          intro wq hw'
          obtain ⟨⟨dq, osq⟩, hw''⟩ := hw'
          have hb := below_of_grow3 hw''
          clear hw'' gc
          replace B := Lib.hid (B.out.trans (hb.mono B.out.size))
          clear hb
          clear q0 q1 q2 q3 q4 zq
          go_wp2
          go_roundw
          case rel => exact ⟨k + 1, by omega, by go_num, HS, B⟩
          case measure => simp [intOf]; omega
        · have t8 : decide ((0 : Int) < (k : Int)) = true := decide_eq_true (by omega)
          have t8b : decide (0 < k) = true := decide_eq_true (by omega)
          obtain ⟨km, hkm⟩ : ∃ km, k = km + 1 := ⟨k - 1, by omega⟩
          have wk1 : IntKind.i64.wrap ((k : Int) - 1) = (km : Int) := by rw [IntKind.wrap_i64]; omega
          have wk2 : (k : Int) - 1 = (km : Int) := by omega
          have wk3 : IntKind.i64.wrap (km : Int) = (km : Int) := by rw [IntKind.wrap_i64]; omega
          have wk4 : (-1 : Int) + (k : Int) = (km : Int) := by omega
          obtain ⟨p0, p1, p2, p3, p4⟩ := RwA.cells_ (HP.out.mono B.out) (k := km) (by rw [HE.out]; omega) rfl
          obtain ⟨y, hy⟩ : ∃ y, l.getD km r0 = y := ⟨_, rfl⟩
          rw [hy] at p0 p1 p2 p3 p4
          have HY := Lib.hid (show l.getD (k - 1) r0 = y by rw [hkm, Nat.add_sub_cancel]; exact hy)
          have mk0 : (0 : Int) ≤ (km : Int) := by omega
          have mkn : (km : Int) < (N : Int) := by omega
          clear hy hkm
          have BF := Lib.hid (fun W : World => before_any y (x1, x2, x3, x4, x5) W)
          by_cases e2 : ltR y (x1, x2, x3, x4, x5)
          · have v2 : ltB y (x1, x2, x3, x4, x5) = true := decide_eq_true e2
            rw [v2] at BF
            have HS := Lib.hid (show ∀ j, j < k + 1 → keyOk (l.getD j r0) ∧ (0 < j → ltR (l.getD (j - 1) r0) (l.getD j r0)) from fun j hj => by
              rcases Nat.lt_or_ge j k with h | h
              · exact HJ.out j h
              · obtain rfl : j = k := by omega
                exact ⟨by rw [HX.out]; exact E1.out, fun q => by rw [HY.out, HX.out]; exact e2⟩)
            clear v2 e2 hk0
            obtain ⟨y1, y2, y3, y4, y5⟩ := y
            simp only [encR] at p0 p1 p2 p3 p4 BF
            have QO := Lib.hid (fun (d : Nat) (os : Array Obj) => BF.out (grow (redrawn w2 d) os))
            have gc := grow_cell3
            go_wp2_with fail
            refine wp_region_quiet_below (by kernel_rfl) (by kernel_rfl) ?_
            repeat (go_big_quiet_step (first | (with_reducible exact Calls.regrown_of (QO.out _ _))))
            refine wpQuiet_nil ?_
            intro wq hw'
            obtain ⟨⟨dq, osq⟩, hw''⟩ := hw'
            have hb := below_of_grow3 hw''
            clear hw'' gc
            replace B := Lib.hid (B.out.trans (hb.mono B.out.size))
            clear hb
            clear q0 q1 q2 q3 q4 p0 p1 p2 p3 p4 zq QO BF
            go_wp2
            go_roundw
            case rel => exact ⟨k + 1, by omega, by go_num, HS, B⟩
            case measure => simp [intOf]; omega
          · have v2 : ltB y (x1, x2, x3, x4, x5) = false := decide_eq_false e2
            rw [v2] at BF
            have RF := Lib.hid (HBAD.out k hlt (Or.inr ⟨by omega, by rw [HY.out, HX.out]; exact e2⟩))
            clear v2 e2 hk0
            obtain ⟨y1, y2, y3, y4, y5⟩ := y
            simp only [encR] at p0 p1 p2 p3 p4 BF
            have QO := Lib.hid (fun (d : Nat) (os : Array Obj) => BF.out (grow (redrawn w2 d) os))
            have gc := grow_cell3
            go_wp2_with fail
            refine wp_region_quiet_below (by kernel_rfl) (by kernel_rfl) ?_
            repeat (go_big_quiet_step (first | (with_reducible exact Calls.regrown_of (QO.out _ _))))
            refine wpQuiet_nil ?_
            intro wq hw'
            obtain ⟨⟨dq, osq⟩, hw''⟩ := hw'
            have hb := below_of_grow3 hw''
            clear hw'' gc
            replace B := Lib.hid (B.out.trans (hb.mono B.out.size))
            clear hb
            clear q0 q1 q2 q3 q4 p0 p1 p2 p3 p4 zq QO BF
            go_wp2
            go_ret
            exact ⟨ret_bool (by rw [RF.out]), B.out⟩
      · have v1 : keyB x = false := decide_eq_false e1
        rw [v1] at RV
        have RF := Lib.hid (HBAD.out k hlt (Or.inl (by rw [HX.out]; exact e1)))
        clear e1 v1
        obtain ⟨x1, x2, x3, x4, x5⟩ := x
        simp only [encR] at q0 q1 q2 q3 q4 RV
        go_wp2_with fail
        refine (RV.out _).mono ?_
        rintro e w2 ⟨rfl, hb⟩
        clear q0 q1 q2 q3 q4
        replace B := Lib.hid (bt B.out hb)
        clear hb RV
        have gc := grow_cell3
        go_wp2_with fail
        refine wp_region_quiet_below (by kernel_rfl) (by kernel_rfl) ?_
        repeat (go_big_quiet_step (fail))
        refine wpQuiet_nil ?_
        intro wq hw'
        obtain ⟨⟨dq, osq⟩, hw''⟩ := hw'
        have hb := below_of_grow3 hw''
        clear hw'' gc
        replace B := Lib.hid (B.out.trans (hb.mono B.out.size))
        clear hb
        go_wp2
        go_ret
        exact ⟨ret_bool (by rw [RF.out]), B.out⟩
    · obtain rfl : k = N := by omega
      have RE := Lib.hid (HEND.out (fun j hj => HJ.out j hj))
      by_cases hf : k ≤ 1000
      · have t1 : decide ((k : Int) ≤ (1000 : Int)) = true := decide_eq_true (by omega)
        have RT := Lib.hid (show R = true by rw [RE.out]; exact decide_eq_true hf)
        clear hf
        go_wp2
        go_ret
        exact ⟨ret_bool (by rw [RT.out]), B.out⟩
      · have t1 : decide ((k : Int) ≤ (1000 : Int)) = false := decide_eq_false (by omega)
        have RT := Lib.hid (show R = false by rw [RE.out]; exact decide_eq_false hf)
        clear hf
        go_wp2
        go_ret
        exact ⟨ret_bool (by rw [RT.out]), B.out⟩
def KeysR (l : List Rw) (p : Int) (e : Ending) : Prop := ∃ f t : Nat, e = .returned (.tuple #[.int .i64 f, .int .i64 t]) ∧ f = posC (cR p 1) l ∧ KeysAt l p f t
set_option maxRecDepth 100000 in
set_option maxHeartbeats 2000000 in
theorem keysOf_any (a : Option Addr) (c : Nat) (l : List Rw) (p : Int) (w : World) (hp : RwA w a l) (ok : RingOk l) :
    Calls Tryd.prog 61 #[.slice a l.length c, .int .i64 p] w fun e w' => KeysR l p e ∧ Below w.heap.size w w' := by
  have HP := Lib.hid hp
  have PL := Lib.hid (fun (X : World) (h : RwA X a l) => place_any a c l p 1 X h ok.ord (by have := ok.few; omega))
  have hle := posC_le (cR p 1) l
  have P1 := Lib.hid (show ∀ j, j < posC (cR p 1) l → (l.getD j r0).1 < p from fun j hj => by
    have h1 := posC_below (cR p 1) l j hj
    rw [cR_neg] at h1
    have h2 := (ok.keys j (by omega)).2.1.1
    omega)
  have P2 := Lib.hid (show posC (cR p 1) l < l.length → p ≤ (l.getD (posC (cR p 1) l) r0).1 from fun h => by
    have h1 := posC_at (cR p 1) l h
    rw [cR_neg] at h1
    omega)
  have HK := Lib.hid (fun (f t : Nat) (hf : f ≤ l.length) (h1 : ∀ j, j < f → (l.getD j r0).1 < p) (ht : f ≤ t) (hl : t ≤ l.length) (h2 : ∀ j, f ≤ j → j < t → (l.getD j r0).1 = p) (h3 : t < l.length → (l.getD t r0).1 ≠ p) (h4 : f < l.length → p ≤ (l.getD f r0).1) => keys_at ok.ord hf h1 ht hl h2 h3 h4)
  have hm := ok.few
  obtain ⟨N, hN⟩ : ∃ N, l.length = N := ⟨_, rfl⟩
  have HE := Lib.hid hN
  obtain ⟨F, hF⟩ : ∃ F, posC (cR p 1) l = F := ⟨_, rfl⟩
  have HFE := Lib.hid hF.symm
  rw [hF] at hle P1 P2
  simp only [hF] at PL
  rw [hN] at hle P2 HK hm ⊢
  simp only [hN] at PL
  clear hp hN hF ok
  go_enter Tryd.func61, Tryd.ntmps61
  go_wp2_with fail
  refine (PL.out _ HP.out).mono ?_
  rintro e w1 ⟨rfl, hb⟩
  have B := Lib.hid hb
  clear hb PL
  go_wp2
  go_loopw [5] (fun u5 wr => ∃ k : Nat, F ≤ k ∧ k ≤ N ∧ u5 = .int .i64 k ∧ Hid (∀ j, F ≤ j → j < k → (l.getD j r0).1 = p) ∧ Hid (Below w.heap.size w wr)) (fun u5 _ => N - (intOf u5).toNat)
  case atStart => exact ⟨F, Nat.le_refl _, hle, rfl, Lib.hid (fun j h1 h2 => absurd h1 (by omega)), B⟩
  case round =>
    clear B
    obtain ⟨k, hfk, hk, rfl, HJ, B⟩ := hrel
    by_cases hlt : k < N
    · have t0 : decide ((k : Int) < (N : Int)) = true := decide_eq_true (by omega)
      have wk : IntKind.i64.wrap ((k : Int) + 1) = (k : Int) + 1 := by rw [IntKind.wrap_i64]; omega
      obtain ⟨b, off, rfl, q0, q1, q2, q3, q4⟩ := RwA.at_ (HP.out.mono B.out) (k := k) (by rw [HE.out]; exact hlt)
      obtain ⟨x, hx⟩ : ∃ y, l.getD k r0 = y := ⟨_, rfl⟩
      rw [hx] at q0 q1 q2 q3 q4
      have HX := Lib.hid hx
      clear hx
      have k0 : (0 : Int) ≤ (k : Int) := by omega
      have kN : (k : Int) < (N : Int) := by omega
      obtain ⟨x1, x2, x3, x4, x5⟩ := x
      simp only at q0 q1 q2 q3 q4
      by_cases e1 : x1 = p
      · have t1 : (x1 == p) = true := beq_iff_eq.2 e1
        have HS := Lib.hid (show ∀ j, F ≤ j → j < k + 1 → (l.getD j r0).1 = p from fun j h1 h2 => by
          rcases Nat.lt_or_ge j k with h | h
          · exact HJ.out j h1 h
          · obtain rfl : j = k := by omega
            rw [HX.out]; exact e1)
        clear e1
        go_wp2
        go_roundw
        case rel => exact ⟨k + 1, by omega, by omega, by go_num, HS, B⟩
        case measure => simp [intOf]; omega
      · have t1 : (x1 == p) = false := beq_eq_false_iff_ne.2 e1
        have KA := Lib.hid (HK.out F k hle P1.out hfk hk HJ.out (fun _ => by rw [HX.out]; exact e1) P2.out)
        clear e1
        go_wp2
        go_ret2
        exact ⟨⟨F, k, rfl, HFE.out, KA.out⟩, B.out⟩
    · obtain rfl : k = N := by omega
      have KA := Lib.hid (HK.out F k hle P1.out hfk hk HJ.out (fun h => absurd h (by omega)) P2.out)
      go_wp2
      go_ret2
      exact ⟨⟨F, k, rfl, HFE.out, KA.out⟩, B.out⟩
end Go.Proofs.YtcdcnklfcmoiiaaDoor
