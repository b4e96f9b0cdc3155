/- Law 8: who is chosen, and who is protected. -/
import Derived.Test.YtjmegfejnocegaaP7
import Derived.Test.YtjmegfejnocegaaM5
namespace Go.Proofs.Ytjmegfejnocegaa
set_option linter.unusedVariables false
set_option linter.unusedSimpArgs false
open Go.RowKit
set_option maxRecDepth 100000 in
set_option maxHeartbeats 1000000 in
theorem protects_out (n : Int) (a : Option Addr) (cap : Nat) (l : List Ac) (x : Nat) (m : Int) (w : World) (hp : AcA w a l) (hm : l.length ≤ 9223372036854775807) (h : ¬ (1 ≤ l.length ∧ l.length ≤ 60 ∧ vA l = true ∧ (0 ≤ n ∧ n ≤ 1099511627776) ∧ (0 ≤ m ∧ m ≤ 1099511627776))) :
    Calls Try.prog 8 #[.int .i64 n, .slice a l.length cap, .int .u8 x, .int .i64 m] w (Truly w) := by
  have CS := Lib.hid (fun W => sane W)
  have CU := Lib.hid (fun W (hb : Below w.heap.size w W) => accountsref_any a cap l W (hp.mono hb) hm)
  have CN := Lib.hid (fun W => capacity_any n W)
  have CM := Lib.hid (fun W => capacity_any m W)
  have H := Lib.hid h
  obtain ⟨N, hN⟩ : ∃ N, l.length = N := ⟨_, rfl⟩
  rw [hN] at hm CU H ⊢
  clear hp h hN
  by_cases c0 : N = 0
  · subst c0
    have d0 : (((0 : Nat) : Int) == 0) = true := rfl
    clear CU CN CM H
    go_enter Try.func8, Try.ntmps8
    go_wp2_with fail
    refine (CS.out _).mono ?_
    rintro e w1 ⟨rfl, hb⟩
    go_wp2
    go_ret
    exact ⟨rfl, hb⟩
  have d0 : ((N : Int) == 0) = false := by simpa using c0
  by_cases c1 : 60 < N
  · clear CU CN CM H
    go_enter Try.func8, Try.ntmps8
    go_wp2_with fail
    refine (CS.out _).mono ?_
    rintro e w1 ⟨rfl, hb⟩
    go_wp2
    go_ret
    exact ⟨rfl, hb⟩
  by_cases c2 : vA l = true
  case neg =>
    rw [show vA l = false by simpa using c2] at CU
    clear c2 CN CM H
    go_enter Try.func8, Try.ntmps8
    go_wp2_with fail
    refine (CU.out _ (Below.refl _ _)).mono ?_
    rintro e w1 ⟨rfl, hb⟩
    have B1 := Lib.hid hb
    clear hb
    go_wp2_with fail
    refine (CS.out _).mono ?_
    rintro e w2 ⟨rfl, hb⟩
    have B2 := Lib.hid (show Below w.heap.size w w2 from bt B1.out hb)
    clear hb
    go_wp2
    go_ret
    exact ⟨rfl, B2.out⟩
  rw [c2] at CU
  by_cases c3 : 0 ≤ n ∧ n ≤ 1099511627776
  case neg =>
    rw [decide_eq_false c3] at CN
    clear c2 c3 CM H
    go_enter Try.func8, Try.ntmps8
    go_wp2_with fail
    refine (CU.out _ (Below.refl _ _)).mono ?_
    rintro e w1 ⟨rfl, hb⟩
    have B1 := Lib.hid hb
    clear hb
    go_wp2_with fail
    refine (CN.out _).mono ?_
    rintro e w2 ⟨rfl, rfl⟩
    go_wp2_with fail
    refine (CS.out _).mono ?_
    rintro e w2 ⟨rfl, hb⟩
    have B2 := Lib.hid (show Below w.heap.size w w2 from bt B1.out hb)
    clear hb
    go_wp2
    go_ret
    exact ⟨rfl, B2.out⟩
  rw [decide_eq_true c3] at CN
  have c4 : ¬ (0 ≤ m ∧ m ≤ 1099511627776) := fun h => H.out ⟨by omega, by omega, c2, c3, h⟩
  rw [decide_eq_false c4] at CM
  clear c2 c3 c4 H
  go_enter Try.func8, Try.ntmps8
  go_wp2_with fail
  refine (CU.out _ (Below.refl _ _)).mono ?_
  rintro e w1 ⟨rfl, hb⟩
  have B1 := Lib.hid hb
  clear hb
  go_wp2_with fail
  refine (CN.out _).mono ?_
  rintro e w2 ⟨rfl, rfl⟩
  go_wp2_with fail
  refine (CM.out _).mono ?_
  rintro e w2 ⟨rfl, rfl⟩
  go_wp2_with fail
  refine (CS.out _).mono ?_
  rintro e w2 ⟨rfl, hb⟩
  have B2 := Lib.hid (show Below w.heap.size w w2 from bt B1.out hb)
  clear hb
  go_wp2
  go_ret
  exact ⟨rfl, B2.out⟩
set_option maxRecDepth 100000 in
set_option maxHeartbeats 2000000 in
theorem protects_in (n : Int) (a : Option Addr) (cap : Nat) (l : List Ac) (x : Nat) (m : Int) (w : World) (hp : AcA w a l) (h0 : 1 ≤ l.length) (h1 : l.length ≤ 60) (h2 : vA l = true) (h3 : 0 ≤ n ∧ n ≤ 1099511627776) (h4 : 0 ≤ m ∧ m ≤ 1099511627776) (hx : x < 256) :
    Calls Try.prog 8 #[.int .i64 n, .slice a l.length cap, .int .u8 x, .int .i64 m] w (Truly w) := by
  have hok := (vA_iff l).1 h2
  obtain ⟨p, hpe⟩ : ∃ p : Nat, x % l.length = p := ⟨_, rfl⟩
  have hpl : p < l.length := by rw [← hpe]; exact Nat.mod_lt _ (by omega)
  have zr : (x : Int).tmod (l.length : Int) = (p : Int) := by rw [← hpe]; rfl
  obtain ⟨hpos, hhas⟩ := hok.only hpl rfl
  have CS := Lib.hid (fun W => sane W)
  have CU := Lib.hid (fun W (hb : Below w.heap.size w W) => accountsref_any a cap l W (hp.mono hb) (by omega))
  have CN := Lib.hid (fun W => capacity_any n W)
  have CM := Lib.hid (fun W => capacity_any m W)
  rw [h2] at CU; rw [decide_eq_true h3] at CN; rw [decide_eq_true h4] at CM
  have HA := Lib.hid (fun W (hb : Below w.heap.size w W) k (hk : k < l.length) => AcA.at_ (hp.mono hb) (k := k) hk)
  have HK := Lib.hid (fun k (hk : k < l.length) => hok.w hk)
  have CV := Lib.hid (fun W (hb : Below w.heap.size w W) => victim_any n a cap l (l.getD p (0, 0, 0)).1 m W (hp.mono hb) hok h3.1 h3.2)
  have CT := Lib.hid (fun W (hb : Below w.heap.size w W) => total_any a cap l W (hp.mono hb) hok)
  have CW := Lib.hid (fun W (hb : Below w.heap.size w W) => wants_any a cap l (l.getD p (0, 0, 0)).1 m W (hp.mono hb) hok hhas h4.1 h4.2)
  rw [← hpos] at CW
  have CF := Lib.hid (fun W b c (hb : ShA W b (wantsL l p m)) => fair_any n b c (wantsL l p m) W hb (wantsL_ok hok p m h4.1) (by rw [wantsL_len]; omega) h3.1 h3.2)
  rw [wantsL_len] at CF
  have FL := Lib.hid (fun v => show (fairC n v (wantsL l p m)).length = l.length by unfold fairC; rw [fairL_len, wantsL_len])
  have VS := Lib.hid (fun r (hr : VictR n l (l.getD p (0, 0, 0)).1 m r) => victR_says hok hpl h3.1 h3.2 h4.1 h4.2 hr)
  have UQ := Lib.hid (show ∀ v v' : Int, IsLev n (wantsL l p m) v → IsLev n (wantsL l p m) v' → v = v' from fun v v' h k => h.uniq (wantsL_ok hok p m h4.1) k)
  have TK := Lib.hid (fun k (hk : k < l.length) => wtA_take l k hk)
  have TE : wtA (l.take l.length) = wtA l := by rw [List.take_length]
  have SB := Lib.hid (fun k (hk : k ≤ l.length) => wtA_bd hok k hk)
  obtain ⟨Wb0, Wb1⟩ := wtA_le hok hpl
  have ORD := Lib.hid (fun i j (hij : i < j) (hj : j < l.length) => hok.lt hij hj)
  have POS := Lib.hid (fun j (hj : j < l.length) => hok.pos hj)
  have PR := Lib.hid (fun j (hj : j < l.length) => part_le hok hj n h3.1)
  have ub := used_bd hok
  have SBN := SB.out l.length (Nat.le_refl _)
  rw [TE] at SBN
  obtain ⟨T, hT⟩ : ∃ T, used l = T := ⟨_, rfl⟩
  obtain ⟨S, hS⟩ : ∃ S, wtA l = S := ⟨_, rfl⟩
  obtain ⟨N, hN⟩ : ∃ N, l.length = N := ⟨_, rfl⟩
  rw [hT] at CT VS ub
  rw [hS] at TE VS Wb1 PR SBN
  rw [hN] at h0 h1 hpl zr CU HA HK CV CT CW CF FL VS TK TE SB ORD POS PR ub SBN ⊢
  have d0 : ((N : Int) == 0) = false := by have : ¬ (N : Int) = 0 := by omega
                                           simpa using this
  have PP := PR.out p hpl
  have gb := HK.out p hpl
  have HA0 := HA
  obtain ⟨y, hy⟩ : ∃ y, l.getD p (0, 0, 0) = y := ⟨_, rfl⟩
  have Y := Lib.hid hy
  rw [hy] at CV CW VS Wb0 Wb1 PP gb
  obtain ⟨t, g, u⟩ := y
  simp only at CV CW VS Wb0 Wb1 PP gb
  obtain ⟨q, hq⟩ : ∃ q, n / S = q := ⟨_, rfl⟩
  rw [hq] at VS PP PR
  obtain ⟨pt, hpt⟩ : ∃ pt, g * q = pt := ⟨_, rfl⟩
  rw [hpt] at PP VS
  have nd : n.tdiv S = q := by rw [Int.tdiv_eq_ediv_of_nonneg h3.1, hq]
  have wq : IntKind.i64.wrap q = q := by rw [IntKind.wrap_i64]; omega
  have wpt : IntKind.i64.wrap (g * q) = pt := by rw [hpt, IntKind.wrap_i64]; omega
  have S0 : S ≠ 0 := by omega
  have S0' : (S == 0) = false := by simpa using S0
  clear hp h2 hok hpe hpos hhas hT hS hN hy hq hpt
  go_enter Try.func8, Try.ntmps8
  go_wp2_with fail
  refine (CU.out _ (Below.refl _ _)).mono ?_
  rintro e w1 ⟨rfl, hb⟩
  have B1 := Lib.hid hb
  clear hb
  go_wp2_with fail
  refine (CN.out _).mono ?_
  rintro e w2 ⟨rfl, rfl⟩
  go_wp2_with fail
  refine (CM.out _).mono ?_
  rintro e w2 ⟨rfl, rfl⟩
  obtain ⟨b, off, rfl, q0, q1, q2⟩ := HA.out w1 B1.out p hpl
  rw [Y.out] at q0 q1 q2
  simp only at q0 q1 q2
  have K1 := Lib.hid (Blk.new w1 53 #[.int .i64 t, .int .i64 g, .int .i64 u])
  have B1' := Lib.hid (B1.out.alloc B1.out.size (.cells #[.int .i64 t, .int .i64 g, .int .i64 u] 53))
  go_wp2
  go_loopw [10, 12, 53] (fun u10 _ u53 wr => ∃ (k : Nat) (s : Int), k ≤ N ∧ u53 = .int .i64 k ∧ u10 = .int .i64 s ∧ 0 ≤ s ∧ s ≤ 1048576 * k ∧ Hid (wtA (l.take k) = s) ∧ Hid (Blk wr w1.heap.size 53 #[.int .i64 t, .int .i64 g, .int .i64 u]) ∧ Hid (Below w.heap.size w wr)) (fun _ _ u53 _ => N - (intOf u53).toNat)
  case atStart => exact ⟨0, 0, by omega, rfl, rfl, by omega, by omega, Lib.hid rfl, K1, B1'⟩
  case round =>
    obtain ⟨k, s, hk, rfl, rfl, s0, s1, hs, hK, hbe⟩ := hrel
    by_cases hlt : k < N
    · obtain ⟨b2, off2, e, q0, q1, q2⟩ := HA.out wr hbe.out k hlt
      cases e
      obtain ⟨o3, o4, -, -⟩ := HK.out k hlt
      have ht := TK.out k hlt
      rw [hs.out] at ht
      obtain ⟨x, hx⟩ : ∃ x, l.getD k (0, 0, 0) = x := ⟨_, rfl⟩
      rw [hx] at q0 q1 q2 o3 o4 ht
      obtain ⟨x1, x2, x3⟩ := x
      simp only at q0 q1 q2 o3 o4 ht
      have HT := Lib.hid ht
      clear hx hs ht
      go_wp2
      go_roundw
      case rel => exact ⟨k + 1, s + x2, by omega, by go_num, rfl, by omega, by omega, HT, Lib.hid (hK.out.alloc _), Lib.hid (hbe.out.alloc hbe.out.size _)⟩
      case measure => simp [intOf]; omega
    · have hkN : N = k := by omega
      subst hkN
      have hs' := hs.out
      rw [TE] at hs'
      subst hs'
      have B2 := hbe
      have K2 := hK
      have m0 := K2.out.cell 0
      have m1 := K2.out.cell 1
      change _ = some (Value.int .i64 t) at m0
      change _ = some (Value.int .i64 g) at m1
      clear hs hbe hK s0 s1
      go_wp2_with fail
      refine (CV.out _ B2.out).mono ?_
      rintro e w3 ⟨r, rfl, hr, hb⟩
      have B3 := Lib.hid (show Below w.heap.size w w3 from bt B2.out hb)
      have K3 := Lib.hid (K2.out.below hb K2.out.lt)
      have SAY := VS.out r hr
      have k0 := K3.out.cell 0
      have k1 := K3.out.cell 1
      have k2 := K3.out.cell 2
      change _ = some (Value.int .i64 t) at k0
      change _ = some (Value.int .i64 g) at k1
      change _ = some (Value.int .i64 u) at k2
      clear hb hr K2 m0 m1
      rcases SAY with ⟨rfl, hfit⟩ | ⟨rfl, hpart⟩ | ⟨j, v, hv, hj, hjp, rfl, hlow, hprt⟩
      · have wT : IntKind.i64.wrap (T + m) = T + m := by rw [IntKind.wrap_i64]; omega
        have dT : decide (T + m ≤ n) = true := decide_eq_true hfit
        go_wp2
        go_quiet (fail)
        go_wp2_with fail
        refine (CS.out _).mono ?_
        rintro e w4 ⟨rfl, hb⟩
        have B4 := Lib.hid (show Below w.heap.size w w4 from bt (below_dn B3.out) hb)
        clear hb
        go_wp2_with fail
        refine (CT.out _ B4.out).mono ?_
        rintro e w5 ⟨rfl, hb⟩
        have B5 := Lib.hid (show Below w.heap.size w w5 from bt B4.out hb)
        clear hb
        go_wp2
        go_ret
        exact ⟨rfl, B5.out⟩
      · have wu : IntKind.i64.wrap (u + m) = u + m := by rw [IntKind.wrap_i64]; omega
        have dT : decide (pt < u + m) = true := decide_eq_true hpart
        go_wp2
        go_quiet (fail)
        go_wp2_with fail
        refine (CS.out _).mono ?_
        rintro e w4 ⟨rfl, hb⟩
        have B4 := Lib.hid (show Below w.heap.size w w4 from bt (below_dn B3.out) hb)
        have K4 := Lib.hid ((K3.out.drewN _).below hb K3.out.lt)
        have k2 := K4.out.cell 2
        change _ = some (Value.int .i64 u) at k2
        clear hb
        go_wp2
        go_ret
        exact ⟨rfl, B4.out⟩
      · have hpj := POS.out j hj
        have HJ := Lib.hid hj
        obtain ⟨y, hy⟩ : ∃ y, l.getD j (0, 0, 0) = y := ⟨_, rfl⟩
        have YJ := Lib.hid hy
        have PJ := PR.out j hj
        have bj := HK.out j hj
        rw [hy] at hlow hprt hpj PJ bj
        obtain ⟨tj, gj, uj⟩ := y
        simp only at hlow hprt hpj PJ bj
        have tz : (tj == 0) = false := by have : ¬ tj = 0 := by omega
                                          simpa using this
        simp only [hy]
        go_wp2
        go_quiet (fail)
        go_wp2_with fail
        refine (CW.out _ (below_dn B3.out)).mono ?_
        rintro e w4 ⟨b4, c4, rfl, hr, hb⟩
        have B4 := Lib.hid (show Below w.heap.size w w4 from bt (below_dn B3.out) hb)
        have K4 := Lib.hid ((K3.out.drewN _).below hb K3.out.lt)
        have R4 := Lib.hid hr
        clear hb hr
        go_wp2_with fail
        refine (CF.out _ _ _ R4.out).mono ?_
        rintro e w5 ⟨v', g5, rfl, hv', -, hr, hb⟩
        have B5 := Lib.hid (show Below w.heap.size w w5 from bt B4.out hb)
        have K5 := Lib.hid (K4.out.below hb K4.out.lt)
        obtain rfl := UQ.out _ _ hv hv'
        obtain ⟨fs, hfs⟩ : ∃ fs, fairC n v (wantsL l p m) = fs := ⟨_, rfl⟩
        have FE := Lib.hid (show fs.length = N by rw [← hfs]; exact FL.out v)
        rw [hfs] at hr hlow
        have R5 := Lib.hid hr
        clear hb hr hfs hv hv' R4 CF CW CT CV
        go_wp2
        go_loopw [17, 18, 116] (fun _ _ u116 wr => ∃ (i : Nat), i ≤ j ∧ u116 = .int .i64 i ∧ Hid (Below w5.heap.size w5 wr)) (fun _ _ u116 _ => N - (intOf u116).toNat)
        case atStart => exact ⟨0, by omega, rfl, Lib.hid (Below.refl _ _)⟩
        case round =>
          obtain ⟨i, hi, rfl, hbe⟩ := hrel
          have BR := Lib.hid (show Below w.heap.size w wr from bt B5.out hbe.out)
          obtain ⟨b2, off2, e, q0, q1, q2⟩ := HA.out wr BR.out i (by omega)
          cases e
          by_cases hij : i < j
          · have hlt := ORD.out i j hij hj
            rw [YJ.out] at hlt
            obtain ⟨y, hy⟩ : ∃ y, l.getD i (0, 0, 0) = y := ⟨_, rfl⟩
            rw [hy] at q0 q1 q2 hlt
            obtain ⟨y1, y2, y3⟩ := y
            simp only at q0 q1 q2 hlt
            have ty : (y1 == tj) = false := by have : ¬ y1 = tj := by omega
                                               simpa using this
            clear hy
            go_wp2
            go_roundw
            case rel => exact ⟨i + 1, by omega, by go_num, Lib.hid (hbe.out.alloc hbe.out.size _)⟩
            case measure => simp [intOf]; omega
          · obtain rfl : j = i := by omega
            have hne : ¬ tj = t := by
              rcases Nat.lt_or_ge j p with h | h
              · have := ORD.out j p h hpl
                rw [YJ.out, Y.out] at this
                simp only at this; omega
              · have := ORD.out p j (by omega) hj
                rw [YJ.out, Y.out] at this
                simp only at this; omega
            have ty : (tj == tj) = true := beq_self_eq_true tj
            have tn : (tj != t) = true := by simpa using hne
            rw [YJ.out] at q0 q1 q2
            simp only at q0 q1 q2
            have f0 := (R5.out.below hbe.out R5.out.lt).cell (k := j) (by rw [FE.out]; exact hj)
            obtain ⟨f, hf⟩ : ∃ f, fs.getD j 0 = f := ⟨_, rfl⟩
            rw [hf] at f0 hlow
            have df : decide (f < uj) = true := decide_eq_true hlow
            have dg : decide (gj * q < uj) = true := decide_eq_true hprt
            have wj : IntKind.i64.wrap (gj * q) = gj * q := by rw [IntKind.wrap_i64]; omega
            have c0 := (K5.out.below hbe.out K5.out.lt).cell 0
            change _ = some (Value.int .i64 t) at c0
            clear hf
            go_wp2
            obtain ⟨wx, hwx⟩ : ∃ v, wr.alloc (.cells #[.int .i64 tj, .int .i64 gj, .int .i64 uj] 53) = v := ⟨_, rfl⟩
            have KX := Lib.hid (show Blk wx wr.heap.size 53 #[.int .i64 tj, .int .i64 gj, .int .i64 uj] by rw [← hwx]; exact Blk.new _ _ _)
            have BX := Lib.hid (show Below w.heap.size w wx by rw [← hwx]; exact BR.out.alloc BR.out.size _)
            have c1 : wx.cell? ⟨w1.heap.size, 0, none⟩ = some (.int .i64 t) := by rw [← hwx, World.cell?_alloc_past _ _ _ (block_lt_of_cell c0)]; exact c0
            have f1 : wx.cell? ⟨g5, j, none⟩ = some (.int .i64 f) := by rw [← hwx, World.cell?_alloc_past _ _ _ (block_lt_of_cell f0)]; exact f0
            have x1 := KX.out.cell 1
            have x2 := KX.out.cell 2
            change _ = some (Value.int .i64 gj) at x1
            change _ = some (Value.int .i64 uj) at x2
            rw [hwx]
            clear hwx c0 f0 q0 q1 q2
            go_region_held3 (fun X => X.cell? ⟨w1.heap.size, 0, none⟩ = some (.int .i64 t) ∧ X.cell? ⟨g5, j, none⟩ = some (.int .i64 f) ∧ X.cell? ⟨wr.heap.size, 1, none⟩ = some (.int .i64 gj) ∧ X.cell? ⟨wr.heap.size, 2, none⟩ = some (.int .i64 uj)) (first | exact ⟨c1, f1, x1, x2⟩ | exact ⟨keep (W := World.drew wx) c1 hb2, keep (W := World.drew wx) f1 hb2, keep (W := World.drew wx) x1 hb2, keep (W := World.drew wx) x2 hb2⟩) (first | (go_at_call 9; refine (CS.out _).mono ?_; rintro e w2 ⟨rfl, hb2⟩; have B2 := Lib.hid (bt (BX.out.drew) hb2)))
            go_wp2
            go_ret
            exact ⟨rfl, B2.out⟩
theorem protects (n : Int) (a : Option Addr) (cap : Nat) (l : List Ac) (x : Nat) (m : Int) (w : World) (hp : AcA w a l) (hl : l.length ≤ 9223372036854775807) (hx : x < 256) (mlo : -9223372036854775808 ≤ m) (mhi : m ≤ 9223372036854775807) :
    Calls Try.prog 8 #[.int .i64 n, .slice a l.length cap, .int .u8 x, .int .i64 m] w (Truly w) := by
  by_cases h : 1 ≤ l.length ∧ l.length ≤ 60 ∧ vA l = true ∧ (0 ≤ n ∧ n ≤ 1099511627776) ∧ (0 ≤ m ∧ m ≤ 1099511627776)
  · exact protects_in n a cap l x m w hp h.1 h.2.1 h.2.2.1 h.2.2.2.1 h.2.2.2.2 hx
  · exact protects_out n a cap l x m w hp hl h
end Go.Proofs.Ytjmegfejnocegaa
