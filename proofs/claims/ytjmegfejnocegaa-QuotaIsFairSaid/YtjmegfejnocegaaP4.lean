/- Law 4: what Fair gives is fair. -/
import Derived.Test.YtjmegfejnocegaaP7
namespace Go.Proofs.Ytjmegfejnocegaa
set_option linter.unusedVariables false
set_option linter.unusedSimpArgs false
open Go.RowKit
structure FairS (n v : Int) (l : List Sh) : Prop where
  len : (fairC n v l).length = l.length
  low : ∀ k, k < l.length → 0 ≤ (fairC n v l).getD k 0 ∧ (fairC n v l).getD k 0 ≤ (l.getD k (0, 0)).2
  part : ∀ k, k < l.length → (fairC n v l).getD k 0 < (l.getD k (0, 0)).2 → (l.getD k (0, 0)).1 * (n / weights l) ≤ (fairC n v l).getD k 0
  other : ∀ i k, i < l.length → k < l.length → (fairC n v l).getD i 0 < (l.getD i (0, 0)).2 → (fairC n v l).getD k 0 * (l.getD i (0, 0)).1 ≤ ((fairC n v l).getD i 0 + (l.getD i (0, 0)).1) * (l.getD k (0, 0)).1
  sum : sumF id ((fairC n v l).take l.length) = min n (wants l)
  exp : exB n l (fairC n v l) = true
theorem fair_says {n v : Int} {l : List Sh} (hl : OkS l) (h0 : 0 ≤ n) (h1 : n ≤ 1099511627776) (h : IsLev n l v) : FairS n v l where
  len := by unfold fairC; exact fairL_len _ _ _
  low := fun k hk => fairC_low n v l hl h k hk
  part := fun k hk hlt => fairC_part n v l hl h h0 h1 k hk hlt
  other := fun i k hi hk hlt => fairC_other n v l hl h i k hi hk hlt
  sum := by rw [List.take_of_length_le (by unfold fairC; rw [fairL_len]; exact Nat.le_refl _)]; exact fairC_sum n v l hl h
  exp := decide_eq_true (fairC_exp n v l hl h)
theorem weights_step (l : List Sh) (k : Nat) (h : k < l.length) : weights (l.take (k + 1)) = weights (l.take k) + (l.getD k (0, 0)).1 := sumF_take _ l k (0, 0) h
theorem prod_room {x y X Y : Int} (a : 0 ≤ x) (b : x ≤ X) (c : 0 ≤ y) (d : y ≤ Y) : 0 ≤ x * y ∧ x * y ≤ X * Y :=
  ⟨Int.mul_nonneg a c, Int.mul_le_mul b d c (by omega)⟩
set_option maxRecDepth 100000 in
set_option maxHeartbeats 1000000 in
theorem isfair_out (n : Int) (a : Option Addr) (cap : Nat) (l : List Sh) (w : World) (hp : ShA w a l) (hm : l.length ≤ 9223372036854775807) (h : ¬ (l.length ≤ 60 ∧ vS l = true ∧ (0 ≤ n ∧ n ≤ 1099511627776))) :
    Calls Try.prog 4 #[.int .i64 n, .slice a l.length cap] w (Truly w) := by
  have CS := Lib.hid (fun W => sane W)
  have CU := Lib.hid (fun W (hb : Below w.heap.size w W) => validref_any a cap l W (hp.mono hb) hm)
  have CN := Lib.hid (fun W => capacity_any n W)
  have H := Lib.hid h
  obtain ⟨N, hN⟩ : ∃ N, l.length = N := ⟨_, rfl⟩
  rw [hN] at hm CU H ⊢
  clear hp h hN
  by_cases c1 : 60 < N
  · clear CU CN H
    go_enter Try.func4, Try.ntmps4
    go_wp2_with fail
    refine (CS.out _).mono ?_
    rintro e w1 ⟨rfl, hb⟩
    go_wp2
    go_ret
    exact ⟨rfl, hb⟩
  by_cases c2 : vS l = true
  case neg =>
    rw [show vS l = false by simpa using c2] at CU
    clear c2 CN H
    go_enter Try.func4, Try.ntmps4
    go_wp2_with fail
    refine (CU.out _ (Below.refl _ _)).mono ?_
    rintro e w1 ⟨rfl, hb⟩
    have B1 := Lib.hid hb
    clear hb
    go_wp2_with fail
    refine (CS.out _).mono ?_
    rintro e w2 ⟨rfl, hb⟩
    have B2 := Lib.hid (show Below w.heap.size w w2 from bt B1.out hb)
    clear hb
    go_wp2
    go_ret
    exact ⟨rfl, B2.out⟩
  rw [c2] at CU
  have c3 : ¬ (0 ≤ n ∧ n ≤ 1099511627776) := fun h => H.out ⟨by omega, c2, h⟩
  rw [decide_eq_false c3] at CN
  clear c2 c3 H
  go_enter Try.func4, Try.ntmps4
  go_wp2_with fail
  refine (CU.out _ (Below.refl _ _)).mono ?_
  rintro e w1 ⟨rfl, hb⟩
  have B1 := Lib.hid hb
  clear hb
  go_wp2_with fail
  refine (CN.out _).mono ?_
  rintro e w2 ⟨rfl, rfl⟩
  go_wp2_with fail
  refine (CS.out _).mono ?_
  rintro e w2 ⟨rfl, hb⟩
  have B2 := Lib.hid (show Below w.heap.size w w2 from bt B1.out hb)
  clear hb
  go_wp2
  go_ret
  exact ⟨rfl, B2.out⟩
set_option maxRecDepth 100000 in
set_option maxHeartbeats 2000000 in
theorem isfair_in (n : Int) (a : Option Addr) (cap : Nat) (l : List Sh) (w : World) (hp : ShA w a l) (h1 : l.length ≤ 60) (h2 : vS l = true) (h3 : 0 ≤ n ∧ n ≤ 1099511627776) :
    Calls Try.prog 4 #[.int .i64 n, .slice a l.length cap] w (Truly w) := by
  obtain ⟨hok, hl⟩ := (vS_iff l).1 h2
  obtain ⟨n0, nM⟩ := h3
  have CS := Lib.hid (fun W => sane W)
  have CU := Lib.hid (fun W (hb : Below w.heap.size w W) => validref_any a cap l W (hp.mono hb) (by omega))
  have CN := Lib.hid (fun W => capacity_any n W)
  rw [h2] at CU; rw [decide_eq_true (show 0 ≤ n ∧ n ≤ 1099511627776 from ⟨n0, nM⟩)] at CN
  have CF := Lib.hid (fun W (hb : Below w.heap.size w W) => fair_any n a cap l W (hp.mono hb) hok hl n0 nM)
  have CE := Lib.hid (fun W b cb gs (hgl : gs.length = l.length) (hb : Below w.heap.size w W) (hq : IntsA W b gs) => (show Calls Try.prog 18 #[.int .i64 n, .slice a l.length cap, .slice b l.length cb] W fun e w' => e = .returned (.bool (exB n l gs)) ∧ Below W.heap.size W w' from by
    have := explains_any n a b cap cb l gs W (hp.mono hb) hq hok hl (by omega) n0 nM
    rw [hgl] at this; exact this))
  have Fsq := Lib.hid (fun v (hv : IsLev n l v) => fair_says hok n0 nM hv)
  have HA := Lib.hid (fun W (hb : Below w.heap.size w W) k (hk : k < l.length) => ShA.at_ (hp.mono hb) (k := k) hk)
  have HK := Lib.hid (fun k (hk : k < l.length) => hok.at_ hk)
  have WS := Lib.hid (fun k (hk : k < l.length) => want_step l k hk)
  have GS := Lib.hid (fun k (hk : k < l.length) => weights_step l k hk)
  have WP := Lib.hid (fun k (hk : k < l.length) => weights_pos l hok k hk)
  have TE : weights (l.take l.length) = weights l := by rw [List.take_length]
  have TW : wants (l.take l.length) = wants l := by rw [List.take_length]
  obtain ⟨N, hN⟩ : ∃ N, l.length = N := ⟨_, rfl⟩
  have HE := Lib.hid hN
  rw [hN] at hl h1 CU CF CE HA HK WS GS WP TE TW ⊢
  have t1 : ((N : Int) != (N : Int)) = false := by simp
  clear hp h2 hok hN
  go_enter Try.func4, Try.ntmps4
  go_wp2_with fail
  refine (CU.out _ (Below.refl _ _)).mono ?_
  rintro e w1 ⟨rfl, hb⟩
  have B1 := Lib.hid hb
  clear hb
  go_wp2_with fail
  refine (CN.out _).mono ?_
  rintro e w2 ⟨rfl, rfl⟩
  go_wp2_with fail
  refine (CF.out _ B1.out).mono ?_
  rintro e w2 ⟨v, g, rfl, hv, -, hr, hb⟩
  have B2 := Lib.hid (show Below w.heap.size w w2 from bt B1.out hb)
  obtain ⟨fl, flow, fpart, foth, fsum, fexp⟩ := Fsq.out v hv
  rw [HE.out] at fl flow fpart foth fsum
  obtain ⟨fs, hfs⟩ : ∃ fs, fairC n v l = fs := ⟨_, rfl⟩
  rw [hfs] at fl flow fpart foth fsum fexp hr
  have CE' := CE.out w2 (some ⟨g, 0, none⟩) N fs fl B2.out hr.ints
  rw [fexp] at CE'
  have CE2 := Lib.hid CE'
  have R2 := Lib.hid hr
  have FL := Lib.hid fl; have LOW := Lib.hid flow; have PART := Lib.hid fpart; have OTH := Lib.hid foth; have SUM := Lib.hid fsum
  have STEP := Lib.hid (fun k (hk : k < fs.length) => sum_step fs k hk)
  clear hb hr hv fl flow fpart foth fsum fexp hfs CE' CE CF Fsq
  go_wp2_with fail
  refine CE2.out.mono ?_
  rintro e w3 ⟨rfl, hb⟩
  have B3 := Lib.hid (show Below w.heap.size w w3 from bt B2.out hb)
  have R3 := Lib.hid (R2.out.below hb R2.out.lt)
  clear hb R2 CE2
  go_wp2
  go_loopw [6, 7, 8, 9, 10, 46] (fun u6 u7 u8 _ _ u46 wr => ∃ (k : Nat) (s t z : Int), k ≤ N ∧ u46 = .int .i64 k ∧ u6 = .int .i64 s ∧ u7 = .int .i64 t ∧ u8 = .int .i64 z ∧ 0 ≤ s ∧ s ≤ 1099511627776 * k ∧ 0 ≤ t ∧ t ≤ 1099511627776 * k ∧ 0 ≤ z ∧ z ≤ 1048576 * k ∧ Hid (sumF id (fs.take k) = s ∧ wants (l.take k) = t ∧ weights (l.take k) = z) ∧ Hid (Below w3.heap.size w3 wr)) (fun _ _ _ _ _ u46 _ => N - (intOf u46).toNat)
  case atStart => exact ⟨0, 0, 0, 0, by omega, rfl, rfl, rfl, rfl, by omega, by omega, by omega, by omega, by omega, by omega, Lib.hid ⟨rfl, rfl, rfl⟩, Lib.hid (Below.refl _ _)⟩
  case round =>
    obtain ⟨k, s, t, z, hk, rfl, rfl, rfl, rfl, s0, s1, t0, t1, z0, z1, hs, hbe⟩ := hrel
    by_cases hlt : k < N
    · have BR := Lib.hid (show Below w.heap.size w wr from bt B3.out hbe.out)
      obtain ⟨b, off, rfl, q0, q1⟩ := HA.out wr BR.out k hlt
      obtain ⟨o1, o2, o3, o4⟩ := HK.out k hlt
      obtain ⟨f0, f1⟩ := LOW.out k hlt
      have e1 := STEP.out k (by rw [FL.out]; exact hlt)
      have e2 := WS.out k hlt
      have e3 := GS.out k hlt
      rw [hs.out.1] at e1; rw [hs.out.2.1] at e2; rw [hs.out.2.2] at e3
      have fc := (R3.out.below hbe.out R3.out.lt).cell (k := k) (by rw [FL.out]; exact hlt)
      obtain ⟨f, hf⟩ : ∃ f, fs.getD k 0 = f := ⟨_, rfl⟩
      obtain ⟨y, hy⟩ : ∃ y, l.getD k (0, 0) = y := ⟨_, rfl⟩
      rw [hf] at fc f0 f1 e1
      rw [hy] at q0 q1 o1 o2 o3 o4 f1 e2 e3
      obtain ⟨x1, x2⟩ := y
      simp only at q0 q1 o1 o2 o3 o4 f1 e2 e3
      have EE := Lib.hid (show _ ∧ _ ∧ _ from ⟨e1, e2, e3⟩)
      have d0 : decide (f < 0) = false := decide_eq_false (by omega)
      have d1 : decide (x2 < f) = false := decide_eq_false (by omega)
      clear hf hy e1 e2 e3 hs
      go_wp2
      obtain ⟨wx, hwx⟩ : ∃ v, wr.alloc (.cells #[.int .i64 x1, .int .i64 x2] 32) = v := ⟨_, rfl⟩
      have KX := Lib.hid (show Blk wx wr.heap.size 32 #[.int .i64 x1, .int .i64 x2] by rw [← hwx]; exact Blk.new _ _ _)
      have BX := Lib.hid (show Below w3.heap.size w3 wx by rw [← hwx]; exact hbe.out.alloc hbe.out.size _)
      have fx : wx.cell? ⟨g, k, none⟩ = some (.int .i64 f) := by rw [← hwx, World.cell?_alloc_past _ _ _ (block_lt_of_cell fc)]; exact fc
      have y0 := KX.out.cell 0
      have y1 := KX.out.cell 1
      change _ = some (Value.int .i64 x1) at y0
      change _ = some (Value.int .i64 x2) at y1
      rw [hwx]
      clear hwx fc q0 q1
      go_quiet (fail)
      obtain ⟨wy, hwy⟩ : ∃ W, wx.drewN nq = W := ⟨_, rfl⟩
      have fy : wy.cell? ⟨g, k, none⟩ = some (.int .i64 f) := by rw [← hwy]; exact fx
      have z0' : wy.cell? ⟨wr.heap.size, 0, none⟩ = some (.int .i64 x1) := by rw [← hwy]; exact y0
      have z1' : wy.cell? ⟨wr.heap.size, 1, none⟩ = some (.int .i64 x2) := by rw [← hwy]; exact y1
      have BY := Lib.hid (show Below w3.heap.size w3 wy by rw [← hwy]; exact below_dn BX.out)
      rw [hwy]
      clear hwy fx y0 y1
      go_wp2
      go_quiet (fail)
      go_wp2
      go_roundw
      case rel => exact ⟨k + 1, s + f, t + x2, z + x1, by omega, by go_num, rfl, rfl, rfl, by omega, by omega, by omega, by omega, by omega, by omega, EE, Lib.hid (below_dn BY.out)⟩
      case measure => simp [intOf]; omega
    · have hkN : N = k := by omega
      subst hkN
      obtain ⟨wa, rfl⟩ : ∃ v, v = wr := ⟨_, rfl⟩
      obtain ⟨i1, i2, i3⟩ := hs.out
      rw [SUM.out] at i1
      rw [TW] at i2
      rw [TE] at i3
      rw [i2] at i1
      rw [i3] at PART WP
      have B4 := Lib.hid (show Below w.heap.size w wa from bt B3.out hbe.out)
      have R4 := Lib.hid (R3.out.below hbe.out R3.out.lt)
      have ts : (s == min n t) = true := by rw [i1]; exact beq_self_eq_true s
      have SM := Lib.hid i1
      clear i1 i2 i3 hs hbe STEP WS GS TE TW
      go_wp2
      go_loopw [11, 12, 13, 14, 82] (fun _ _ _ _ u82 wr => ∃ (i : Nat), i ≤ N ∧ u82 = .int .i64 i ∧ Hid (Below wa.heap.size wa wr)) (fun _ _ _ _ u82 _ => N - (intOf u82).toNat)
      case atStart => exact ⟨0, by omega, rfl, Lib.hid (Below.refl _ _)⟩
      case round =>
        obtain ⟨i, hi, rfl, hbe⟩ := hrel
        by_cases hlt : i < N
        · have BR := Lib.hid (show Below w.heap.size w wr from bt B4.out hbe.out)
          obtain ⟨wb, rfl⟩ : ∃ v, v = wr := ⟨_, rfl⟩
          obtain ⟨b, off, rfl, q0, q1⟩ := HA.out wb BR.out i hlt
          obtain ⟨o1, o2, o3, o4⟩ := HK.out i hlt
          obtain ⟨f0, f1⟩ := LOW.out i hlt
          have zp := WP.out i hlt
          have pp := PART.out i hlt
          have OT := Lib.hid (fun k hk => OTH.out i k hlt hk)
          have fc := (R4.out.below hbe.out R4.out.lt).cell (k := i) (by rw [FL.out]; exact hlt)
          obtain ⟨f, hf⟩ : ∃ f, fs.getD i 0 = f := ⟨_, rfl⟩
          obtain ⟨y, hy⟩ : ∃ y, l.getD i (0, 0) = y := ⟨_, rfl⟩
          rw [hf] at fc f0 f1 pp OT
          rw [hy] at q0 q1 o1 o2 o3 o4 f1 pp OT
          obtain ⟨x1, x2⟩ := y
          simp only at q0 q1 o1 o2 o3 o4 f1 pp OT
          have PP := Lib.hid pp
          clear hf hy pp
          go_wp2
          obtain ⟨wx, hwx⟩ : ∃ v, wb.alloc (.cells #[.int .i64 x1, .int .i64 x2] 32) = v := ⟨_, rfl⟩
          have KX := Lib.hid (show Blk wx wb.heap.size 32 #[.int .i64 x1, .int .i64 x2] by rw [← hwx]; exact Blk.new _ _ _)
          have BX := Lib.hid (show Below wa.heap.size wa wx by rw [← hwx]; exact hbe.out.alloc hbe.out.size _)
          have fx : wx.cell? ⟨g, i, none⟩ = some (.int .i64 f) := by rw [← hwx, World.cell?_alloc_past _ _ _ (block_lt_of_cell fc)]; exact fc
          have y0 := KX.out.cell 0
          have y1 := KX.out.cell 1
          change _ = some (Value.int .i64 x1) at y0
          change _ = some (Value.int .i64 x2) at y1
          rw [hwx]
          clear hwx fc q0 q1
          by_cases hfx : f < x2
          · have dfx : decide (f < x2) = true := decide_eq_true hfx
            have pp := PP.out hfx
            have OT2 := Lib.hid (fun k hk => OT.out k hk hfx)
            have nd : n.tdiv z = n / z := Int.tdiv_eq_ediv_of_nonneg n0
            have q0 : 0 ≤ n / z := Int.ediv_nonneg n0 (by omega)
            have q1 : n / z ≤ n := Int.ediv_le_self _ n0
            obtain ⟨Q, hQ⟩ : ∃ Q, n / z = Q := ⟨_, rfl⟩
            rw [hQ] at nd q0 q1 pp
            have mm : 0 ≤ x1 * Q := Int.mul_nonneg (by omega) q0
            have wQ : IntKind.i64.wrap Q = Q := by rw [IntKind.wrap_i64]; omega
            have wxQ : IntKind.i64.wrap (x1 * Q) = x1 * Q := by rw [IntKind.wrap_i64]; omega
            have zz : (z == 0) = false := beq_eq_false_iff_ne.2 (by omega)
            have dp : decide (f < x1 * Q) = false := decide_eq_false (by omega)
            have wfx : IntKind.i64.wrap (f + x1) = f + x1 := by rw [IntKind.wrap_i64]; omega
            clear PP OT hQ
            go_quiet (fail)
            obtain ⟨wy, hwy⟩ : ∃ W, wx.drewN nq = W := ⟨_, rfl⟩
            have fy : wy.cell? ⟨g, i, none⟩ = some (.int .i64 f) := by rw [← hwy]; exact fx
            have z0' : wy.cell? ⟨wb.heap.size, 0, none⟩ = some (.int .i64 x1) := by rw [← hwy]; exact y0
            have z1' : wy.cell? ⟨wb.heap.size, 1, none⟩ = some (.int .i64 x2) := by rw [← hwy]; exact y1
            have BY := Lib.hid (show Below wa.heap.size wa wy by rw [← hwy]; exact below_dn BX.out)
            rw [hwy]
            clear hwy fx y0 y1
            go_wp2
            go_loopw [13, 14, 109] (fun _ _ u109 wr => ∃ (k : Nat), k ≤ N ∧ u109 = .int .i64 k ∧ Hid (Below wy.heap.size wy wr)) (fun _ _ u109 _ => N - (intOf u109).toNat)
            case atStart => exact ⟨0, by omega, rfl, Lib.hid (Below.refl _ _)⟩
            case round =>
              obtain ⟨k, hk, rfl, hbe⟩ := hrel
              by_cases hltk : k < N
              · have BA := Lib.hid (show Below wa.heap.size wa wr from bt BY.out hbe.out)
                have BR2 := Lib.hid (show Below w.heap.size w wr from bt B4.out BA.out)
                obtain ⟨b2, off2, e, q0, q1⟩ := HA.out wr BR2.out k hltk
                cases e
                obtain ⟨p1, p2, p3, p4⟩ := HK.out k hltk
                obtain ⟨g0, g1⟩ := LOW.out k hltk
                have ot := OT2.out k hltk
                have c0 := keep fy hbe.out
                have c1 := keep z0' hbe.out
                have c2 := keep z1' hbe.out
                have fc := (R4.out.below BA.out R4.out.lt).cell (k := k) (by rw [FL.out]; exact hltk)
                obtain ⟨fk, hfk⟩ : ∃ f, fs.getD k 0 = f := ⟨_, rfl⟩
                obtain ⟨y, hy⟩ : ∃ y, l.getD k (0, 0) = y := ⟨_, rfl⟩
                rw [hfk] at fc g0 g1 ot
                rw [hy] at q0 q1 p1 p2 p3 p4 g1 ot
                obtain ⟨k1, k2⟩ := y
                simp only at q0 q1 p1 p2 p3 p4 g1 ot
                obtain ⟨m0, m1⟩ := prod_room (x := fk) (y := x1) (X := 1099511627776) (Y := 1048576) (by omega) (by omega) (by omega) (by omega)
                obtain ⟨m2, m3⟩ := prod_room (x := f + x1) (y := k1) (X := 1099512676352) (Y := 1048576) (by omega) (by omega) (by omega) (by omega)
                have v1 : IntKind.i64.wrap (fk * x1) = fk * x1 := by rw [IntKind.wrap_i64]; omega
                have v2 : IntKind.i64.wrap ((f + x1) * k1) = (f + x1) * k1 := by rw [IntKind.wrap_i64]; omega
                have dm : decide ((f + x1) * k1 < fk * x1) = false := decide_eq_false (by omega)
                clear hfk hy m0 m1 m2 m3 ot
                go_wp2
                obtain ⟨wc, hwc⟩ : ∃ v, wr.alloc (.cells #[.int .i64 k1, .int .i64 k2] 32) = v := ⟨_, rfl⟩
                have KC := Lib.hid (show Blk wc wr.heap.size 32 #[.int .i64 k1, .int .i64 k2] by rw [← hwc]; exact Blk.new _ _ _)
                have BC := Lib.hid (show Below wy.heap.size wy wc by rw [← hwc]; exact hbe.out.alloc hbe.out.size _)
                have e0 : wc.cell? ⟨g, i, none⟩ = some (.int .i64 f) := by rw [← hwc, World.cell?_alloc_past _ _ _ (block_lt_of_cell c0)]; exact c0
                have e1 : wc.cell? ⟨wb.heap.size, 0, none⟩ = some (.int .i64 x1) := by rw [← hwc, World.cell?_alloc_past _ _ _ (block_lt_of_cell c1)]; exact c1
                have e2 : wc.cell? ⟨wb.heap.size, 1, none⟩ = some (.int .i64 x2) := by rw [← hwc, World.cell?_alloc_past _ _ _ (block_lt_of_cell c2)]; exact c2
                have e3 : wc.cell? ⟨g, k, none⟩ = some (.int .i64 fk) := by rw [← hwc, World.cell?_alloc_past _ _ _ (block_lt_of_cell fc)]; exact fc
                have e4 := KC.out.cell 0
                change _ = some (Value.int .i64 k1) at e4
                rw [hwc]
                clear hwc fc q0 q1 c0 c1 c2
                go_quiet (fail)
                go_wp2
                go_roundw
                case rel => exact ⟨k + 1, by omega, by go_num, Lib.hid (below_dn BC.out)⟩
                case measure => simp [intOf]; omega
              · go_wp2
                go_roundw
                case rel => exact ⟨i + 1, by omega, by go_num, Lib.hid (bt BY.out hbe.out)⟩
                case measure => simp [intOf]; omega
          · have dfx : decide (f < x2) = false := decide_eq_false hfx
            clear PP OT
            go_quiet (fail)
            obtain ⟨wy, hwy⟩ : ∃ W, wx.drewN nq = W := ⟨_, rfl⟩
            have fy : wy.cell? ⟨g, i, none⟩ = some (.int .i64 f) := by rw [← hwy]; exact fx
            have z1' : wy.cell? ⟨wb.heap.size, 1, none⟩ = some (.int .i64 x2) := by rw [← hwy]; exact y1
            have BY := Lib.hid (show Below wa.heap.size wa wy by rw [← hwy]; exact below_dn BX.out)
            rw [hwy]
            clear hwy fx y0 y1
            go_wp2
            go_loopw [13, 14, 109] (fun _ _ u109 wr => ∃ (k : Nat), k ≤ N ∧ u109 = .int .i64 k ∧ Hid (Below wy.heap.size wy wr)) (fun _ _ u109 _ => N - (intOf u109).toNat)
            case atStart => exact ⟨0, by omega, rfl, Lib.hid (Below.refl _ _)⟩
            case round =>
              obtain ⟨k, hk, rfl, hbe⟩ := hrel
              by_cases hltk : k < N
              · have BA := Lib.hid (show Below wa.heap.size wa wr from bt BY.out hbe.out)
                have BR2 := Lib.hid (show Below w.heap.size w wr from bt B4.out BA.out)
                obtain ⟨b2, off2, e, q0, q1⟩ := HA.out wr BR2.out k hltk
                cases e
                have c0 := keep fy hbe.out
                have c2 := keep z1' hbe.out
                obtain ⟨y, hy⟩ : ∃ y, l.getD k (0, 0) = y := ⟨_, rfl⟩
                rw [hy] at q0 q1
                obtain ⟨k1, k2⟩ := y
                simp only at q0 q1
                clear hy
                go_wp2
                obtain ⟨wc, hwc⟩ : ∃ v, wr.alloc (.cells #[.int .i64 k1, .int .i64 k2] 32) = v := ⟨_, rfl⟩
                have BC := Lib.hid (show Below wy.heap.size wy wc by rw [← hwc]; exact hbe.out.alloc hbe.out.size _)
                have e0 : wc.cell? ⟨g, i, none⟩ = some (.int .i64 f) := by rw [← hwc, World.cell?_alloc_past _ _ _ (block_lt_of_cell c0)]; exact c0
                have e2 : wc.cell? ⟨wb.heap.size, 1, none⟩ = some (.int .i64 x2) := by rw [← hwc, World.cell?_alloc_past _ _ _ (block_lt_of_cell c2)]; exact c2
                rw [hwc]
                clear hwc q0 q1 c0 c2
                go_quiet (fail)
                go_wp2
                go_roundw
                case rel => exact ⟨k + 1, by omega, by go_num, Lib.hid (below_dn BC.out)⟩
                case measure => simp [intOf]; omega
              · go_wp2
                go_roundw
                case rel => exact ⟨i + 1, by omega, by go_num, Lib.hid (bt BY.out hbe.out)⟩
                case measure => simp [intOf]; omega
        · go_wp2_with fail
          refine (CS.out _).mono ?_
          rintro e w9 ⟨rfl, hb⟩
          have B9 := Lib.hid (show Below w.heap.size w w9 from bt (bt B4.out hbe.out) hb)
          clear hb hbe
          go_wp2
          go_ret
          exact ⟨rfl, B9.out⟩
theorem isfair (n : Int) (a : Option Addr) (cap : Nat) (l : List Sh) (w : World) (hp : ShA w a l) (hl : l.length ≤ 9223372036854775807) :
    Calls Try.prog 4 #[.int .i64 n, .slice a l.length cap] w (Truly w) := by
  by_cases h : l.length ≤ 60 ∧ vS l = true ∧ (0 ≤ n ∧ n ≤ 1099511627776)
  · exact isfair_in n a cap l w hp h.1 h.2.1 h.2.2
  · exact isfair_out n a cap l w hp hl h
end Go.Proofs.Ytjmegfejnocegaa
