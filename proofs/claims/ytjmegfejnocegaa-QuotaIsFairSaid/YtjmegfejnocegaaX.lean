/- Contracts: the reference's Victim. -/
import Derived.Test.YtjmegfejnocegaaW
namespace Go.Proofs.Ytjmegfejnocegaa
set_option linter.unusedVariables false
set_option linter.unusedSimpArgs false
open Go.RowKit
def GivesF (w : World) (c : Int) (l : List Ac) (x m : Int) (e : Ending) (w' : World) : Prop := ∃ r : Int × Int, e = .returned (.agg #[.int .i64 r.1, .int .i64 r.2]) ∧ VictR c l x m r ∧ Below w.heap.size w w'
theorem victf_early {w w' : World} {c : Int} {l : List Ac} {x m v er : Int} (h : earlyV c l x m = some (v, er)) (hb : Below w.heap.size w w') : GivesF w c l x m (.returned (.agg #[.int .i64 v, .int .i64 er])) w' := ⟨(v, er), rfl, VictR.early h, hb⟩
theorem infoF : (Try.prog.info? 49).map (·.size) = some 2 := by kernel_rfl
set_option maxRecDepth 100000 in
set_option maxHeartbeats 1000000 in
theorem victimref_early (c : Int) (a : Option Addr) (cap : Nat) (l : List Ac) (x m : Int) (w : World) (hp : AcA w a l) (hok : OkA l) (hc : 0 ≤ c) (hcM : c ≤ 1099511627776) (h : earlyV c l x m ≠ none) :
    Calls Try.prog 30 #[.int .i64 c, .slice a l.length cap, .int .i64 x, .int .i64 m] w (GivesF w c l x m) := by
  have CP := Lib.hid (fun W (hb : Below w.heap.size w W) => place_any a cap l x W (hp.mono hb) hok)
  have CT := Lib.hid (fun W (hb : Below w.heap.size w W) => totalref_any a cap l W (hp.mono hb) hok)
  have hm := hok.2
  obtain ⟨u0, u1⟩ := used_bd hok
  have K0 := Lib.hid (Blk.new w 49 #[.int .i64 0, .int .i64 0])
  have B0 := Lib.hid (show Below w.heap.size w (w.alloc (.cells #[.int .i64 0, .int .i64 0] 49)) from (Below.refl _ _).alloc (Nat.le_refl _) _)
  by_cases c3 : hasA l x = true
  case neg =>
    have G := Lib.hid (fun W hb => victf_early (w := w) (w' := W) (early_5 (c := c) (m := m) c3) hb)
    rw [if_neg c3] at CP
    obtain ⟨N, hN⟩ : ∃ N, l.length = N := ⟨_, rfl⟩
    rw [hN] at CP hm ⊢
    clear hp hok c3 hN CT h
    go_enter Try.func30, Try.ntmps30
    go_wp2_with fail
    refine (CP.out _ B0.out).mono ?_
    rintro e w1 ⟨rfl, hb⟩
    have B1 := Lib.hid (show Below w.heap.size w w1 from bt B0.out hb)
    have K1 := Lib.hid (K0.out.below hb (by simp))
    clear hb
    go_wp2_with (refine wpList_store_blk rfl _ _ _ rfl w.heap.size 49 _ #[.int .i64 0, .int .i64 5] rfl rfl K1.out infoF rfl (by simp [Value.oneCell']) rfl ?_)
    refine bodyPost_ret (v := .agg #[.int .i64 0, .int .i64 5]) (results_cell_row rfl _ _ _ 49 _ (0, 0) _ rfl (K1.out.row_ _) Try.underlying49 rfl infoF) rfl ?_
    exact G.out _ (below_setRow B1.out (Nat.le_refl _) _)
  rw [if_pos c3] at CP
  by_cases c4 : 0 ≤ m ∧ m ≤ 1099511627776
  case neg =>
    have G := Lib.hid (fun W hb => victf_early (w := w) (w' := W) (early_1 (c := c) (m := m) c3 (by omega)) hb)
    have HC := Lib.hid c4
    obtain ⟨p, hpp⟩ : ∃ p, posA l x = p := ⟨_, rfl⟩
    rw [hpp] at CP
    obtain ⟨N, hN⟩ : ∃ N, l.length = N := ⟨_, rfl⟩
    rw [hN] at CP hm ⊢
    clear hp hok c3 hN CT h c4 hpp
    by_cases d : m < 0
    · have d1 : decide (m < 0) = true := decide_eq_true d
      go_enter Try.func30, Try.ntmps30
      go_wp2_with fail
      refine (CP.out _ B0.out).mono ?_
      rintro e w1 ⟨rfl, hb⟩
      have B1 := Lib.hid (show Below w.heap.size w w1 from bt B0.out hb)
      have K1 := Lib.hid (K0.out.below hb (by simp))
      clear hb
      go_wp2_with (refine wpList_store_blk rfl _ _ _ rfl w.heap.size 49 _ #[.int .i64 0, .int .i64 1] rfl rfl K1.out infoF rfl (by simp [Value.oneCell']) rfl ?_)
      refine bodyPost_ret (v := .agg #[.int .i64 0, .int .i64 1]) (results_cell_row rfl _ _ _ 49 _ (0, 0) _ rfl (K1.out.row_ _) Try.underlying49 rfl infoF) rfl ?_
      exact G.out _ (below_setRow B1.out (Nat.le_refl _) _)
    have d1 : decide (m < 0) = false := decide_eq_false d
    have d2 : 1099511627776 < m := by have := HC.out; omega
    have d3 : decide (1099511627776 < m) = true := decide_eq_true d2
    go_enter Try.func30, Try.ntmps30
    go_wp2_with fail
    refine (CP.out _ B0.out).mono ?_
    rintro e w1 ⟨rfl, hb⟩
    have B1 := Lib.hid (show Below w.heap.size w w1 from bt B0.out hb)
    have K1 := Lib.hid (K0.out.below hb (by simp))
    clear hb
    go_wp2_with (refine wpList_store_blk rfl _ _ _ rfl w.heap.size 49 _ #[.int .i64 0, .int .i64 1] rfl rfl K1.out infoF rfl (by simp [Value.oneCell']) rfl ?_)
    refine bodyPost_ret (v := .agg #[.int .i64 0, .int .i64 1]) (results_cell_row rfl _ _ _ 49 _ (0, 0) _ rfl (K1.out.row_ _) Try.underlying49 rfl infoF) rfl ?_
    exact G.out _ (below_setRow B1.out (Nat.le_refl _) _)
  by_cases c5 : used l + m ≤ c
  · have G := Lib.hid (fun W hb => victf_early (w := w) (w' := W) (early_0 (c := c) (m := m) c3 (by omega) c5) hb)
    obtain ⟨p, hpp⟩ : ∃ p, posA l x = p := ⟨_, rfl⟩
    rw [hpp] at CP
    obtain ⟨U, hU⟩ : ∃ U, used l = U := ⟨_, rfl⟩
    rw [hU] at CT c5 u0 u1
    obtain ⟨N, hN⟩ : ∃ N, l.length = N := ⟨_, rfl⟩
    rw [hN] at CP CT hm u1 ⊢
    obtain ⟨c6, c7⟩ := c4
    have d1 : decide (m < 0) = false := decide_eq_false (by omega)
    have d3 : decide (1099511627776 < m) = false := decide_eq_false (by omega)
    clear hp hok c3 hN h hU hpp
    go_enter Try.func30, Try.ntmps30
    go_wp2_with fail
    refine (CP.out _ B0.out).mono ?_
    rintro e w1 ⟨rfl, hb⟩
    have B1 := Lib.hid (show Below w.heap.size w w1 from bt B0.out hb)
    have K1 := Lib.hid (K0.out.below hb (by simp))
    clear hb
    go_wp2_with fail
    refine (CT.out _ B1.out).mono ?_
    rintro e w2 ⟨rfl, hb⟩
    have B2 := Lib.hid (show Below w.heap.size w w2 from bt B1.out hb)
    have K2 := Lib.hid (K1.out.below hb K1.out.lt)
    clear hb
    go_wp2_with (refine wpList_store_blk rfl _ _ _ rfl w.heap.size 49 _ #[.int .i64 0, .int .i64 0] rfl rfl K2.out infoF rfl (by simp [Value.oneCell']) rfl ?_)
    refine bodyPost_ret (v := .agg #[.int .i64 0, .int .i64 0]) (results_cell_row rfl _ _ _ 49 _ (0, 0) _ rfl (K2.out.row_ _) Try.underlying49 rfl infoF) rfl ?_
    exact G.out _ (below_setRow B2.out (Nat.le_refl _) _)
  · exact absurd (early_n c3 (by omega) c5) h
set_option maxRecDepth 100000 in
set_option maxHeartbeats 2000000 in
theorem victimref_late (c : Int) (a : Option Addr) (cap : Nat) (l : List Ac) (x m : Int) (w : World) (hp : AcA w a l) (hok : OkA l) (hc : 0 ≤ c) (hcM : c ≤ 1099511627776) (h : earlyV c l x m = none) :
    Calls Try.prog 30 #[.int .i64 c, .slice a l.length cap, .int .i64 x, .int .i64 m] w (GivesF w c l x m) := by
  obtain ⟨c3, c6, c7, c5⟩ := earlyV_none h
  have CP := Lib.hid (fun W (hb : Below w.heap.size w W) => place_any a cap l x W (hp.mono hb) hok)
  have CT := Lib.hid (fun W (hb : Below w.heap.size w W) => totalref_any a cap l W (hp.mono hb) hok)
  have CW := Lib.hid (fun W (hb : Below w.heap.size w W) => wants_any a cap l x m W (hp.mono hb) hok c3 c6 c7)
  rw [if_pos c3] at CP
  have hm := hok.2
  obtain ⟨u0, u1⟩ := used_bd hok
  have HP := Lib.hid hp; have HK := Lib.hid hok
  obtain ⟨hpl, -⟩ := (hasA_iff l x).1 c3
  have OKW := Lib.hid (wantsL_ok hok (posA l x) m c6)
  have FIN := Lib.hid (fun n (hn : IsLev c (wantsL l (posA l x) m) n) => VictR.late h hn)
  have K0 := Lib.hid (Blk.new w 49 #[.int .i64 0, .int .i64 0])
  have B0 := Lib.hid (show Below w.heap.size w (w.alloc (.cells #[.int .i64 0, .int .i64 0] 49)) from (Below.refl _ _).alloc (Nat.le_refl _) _)
  obtain ⟨p, hpp⟩ : ∃ p, posA l x = p := ⟨_, rfl⟩
  rw [hpp] at CP CW hpl OKW FIN
  have CR := Lib.hid (fun W g cc (hb : ShA W g (wantsL l p m)) => fairref_any c g cc (wantsL l p m) W hb OKW.out (by rw [wantsL_len]; exact hm) hc hcM)
  have LOW := Lib.hid (fun n (hn : IsLev c (wantsL l p m) n) k (hk : k < l.length) => fairC_low c n (wantsL l p m) OKW.out hn k (by rw [wantsL_len]; exact hk))
  have LEN := Lib.hid (fun n => show (fairC c n (wantsL l p m)).length = l.length by unfold fairC; rw [fairL_len, wantsL_len])
  have WB := Lib.hid (fun k (hk : k < l.length) => (OKW.out.at_ (k := k) (by rw [wantsL_len]; exact hk)).2.2.2)
  have LATE := Lib.hid (fun gs => show lateV l gs p m = if gs.getD p 0 < (l.getD p (0, 0, 0)).2.2 + m then (0, 160) else ((bestK l gs p l.length).1, 0) from rfl)
  obtain ⟨U, hU⟩ : ∃ U, used l = U := ⟨_, rfl⟩
  rw [hU] at CT c5 u0 u1
  have hwl := wantsL_len l p m
  obtain ⟨N, hN⟩ : ∃ N, l.length = N := ⟨_, rfl⟩
  have HE := Lib.hid hN
  rw [hN] at CP CT CW hm u1 hpl LEN LOW WB hwl ⊢
  simp only [hwl] at CR
  have d1 : decide (m < 0) = false := decide_eq_false (by omega)
  have d3 : decide (1099511627776 < m) = false := decide_eq_false (by omega)
  clear hp hok c3 hN h hU hpp hwl
  go_enter Try.func30, Try.ntmps30
  go_wp2_with fail
  refine (CP.out _ B0.out).mono ?_
  rintro e w1 ⟨rfl, hb⟩
  have B1 := Lib.hid (show Below w.heap.size w w1 from bt B0.out hb)
  have K1 := Lib.hid (K0.out.below hb (by simp))
  clear hb CP K0 B0
  go_wp2_with fail
  refine (CT.out _ B1.out).mono ?_
  rintro e w2 ⟨rfl, hb⟩
  have B2 := Lib.hid (show Below w.heap.size w w2 from bt B1.out hb)
  have K2 := Lib.hid (K1.out.below hb K1.out.lt)
  clear hb CT K1 B1
  go_wp2_with fail
  refine (CW.out _ B2.out).mono ?_
  rintro e w3 ⟨b3, c3, rfl, hsh, hb⟩
  have B3 := Lib.hid (show Below w.heap.size w w3 from bt B2.out hb)
  have K3 := Lib.hid (K2.out.below hb K2.out.lt)
  have HSH := Lib.hid hsh
  clear hb CW K2 B2 hsh
  go_wp2_with fail
  refine (CR.out _ _ _ HSH.out).mono ?_
  rintro e w5 ⟨n, b4, c4, rfl, hn, hi, hb⟩
  have B5 := Lib.hid (show Below w.heap.size w w5 from bt B3.out hb)
  have K5 := Lib.hid (K3.out.below hb K3.out.lt)
  have LO := Lib.hid (fun k hk => LOW.out n hn k hk)
  have LN := Lib.hid (LEN.out n)
  have FN := Lib.hid (FIN.out n hn)
  obtain ⟨gs, hgs⟩ : ∃ gs, fairC c n (wantsL l p m) = gs := ⟨_, rfl⟩
  rw [hgs] at hi LO LN FN
  have LA := Lib.hid (LATE.out gs)
  have GI := Lib.hid hi
  obtain ⟨b, off, rfl, q0, q1, q2⟩ := AcA.at_ (HP.out.mono B5.out) (k := p) (by rw [HE.out]; exact hpl)
  obtain ⟨b6, o6, rfl, q3⟩ := hi p (by rw [LN.out]; exact hpl)
  obtain ⟨-, -, o3, o4⟩ := HK.out.w (j := p) (by rw [HE.out]; exact hpl)
  obtain ⟨y, hy⟩ : ∃ y, l.getD p (0, 0, 0) = y := ⟨_, rfl⟩
  rw [hy] at q0 q1 q2 o3 o4 LA
  obtain ⟨y1, y2, y3⟩ := y
  simp only at q0 q1 q2 o3 o4 LA
  obtain ⟨gp, hgp⟩ : ∃ x, gs.getD p 0 = x := ⟨_, rfl⟩
  rw [hgp] at q3 LA
  obtain ⟨V, hV⟩ : ∃ V, y3 + m = V := ⟨_, rfl⟩
  rw [hV] at LA
  have wV : IntKind.i64.wrap V = V := by rw [IntKind.wrap_i64]; omega
  clear hn hb hi hgs hy hgp LOW LEN FIN LATE CR K3 B3 HSH
  by_cases hgv : gp < V
  · rw [if_pos hgv] at LA
    have d4 : decide (gp < V) = true := decide_eq_true hgv
    have G := Lib.hid (show VictR c l x m (0, 160) by rw [← LA.out]; exact FN.out)
    go_wp2
    go_quiet (fail)
    have K6 := Lib.hid (K5.out.drewN nq)
    go_wp2_with (refine wpList_store_blk rfl _ _ _ rfl w.heap.size 49 _ #[.int .i64 0, .int .i64 160] rfl rfl K6.out infoF rfl (by simp [Value.oneCell']) rfl ?_)
    refine bodyPost_ret (v := .agg #[.int .i64 0, .int .i64 160]) (results_cell_row rfl _ _ _ 49 _ (0, 0) _ rfl (K6.out.row_ _) Try.underlying49 rfl infoF) rfl ?_
    exact ⟨(0, 160), rfl, G.out, below_setRow (below_dn B5.out) (Nat.le_refl _) _⟩
  rw [if_neg hgv] at LA
  have d4 : decide (gp < V) = false := decide_eq_false hgv
  go_wp2
  go_quiet (fail)
  obtain ⟨w6, hw6⟩ : ∃ W, w5.drewN nq = W := ⟨_, rfl⟩
  have K6 := Lib.hid (show Blk w6 w.heap.size _ _ by rw [← hw6]; exact K5.out.drewN nq)
  have B6 := Lib.hid (show Below w.heap.size w w6 by rw [← hw6]; exact below_dn B5.out)
  have GI6 := Lib.hid (show IntsA w6 (some ⟨b6, o6, none⟩) gs by rw [← hw6]; exact GI.out)
  rw [hw6]
  obtain ⟨S, hS⟩ : ∃ S, w6.heap.size = S := ⟨_, rfl⟩
  have z6 : w.heap.size < S := by rw [← hS]; exact K6.out.lt
  have z7 : b6 < S := by
    obtain ⟨bb, oo, e, hc⟩ := GI6.out p (by rw [LN.out]; exact hpl)
    injection e with e; injection e with e1 e2; subst e1
    rw [← hS]; exact block_lt_of_cell hc
  have HS := Lib.hid hS
  clear hw6 K5 B5 GI q0 q1 q2 q3 hgv d4 hS
  go_wp2
  rw [HS.out]
  go_loopw [12, 13] (fun u12 u13 wr => ∃ (k : Nat), k ≤ N ∧ u13 = .int .i64 k ∧ u12 = .int .i64 (bestK l gs p k).2 ∧ Hid (Blk wr w.heap.size 49 #[.int .i64 0, .int .i64 0]) ∧ Hid (Blk wr S 49 #[.int .i64 (bestK l gs p k).1, .int .i64 0]) ∧ Hid (IntsA wr (some ⟨b6, o6, none⟩) gs) ∧ Hid (Below w.heap.size w wr)) (fun _ u13 _ => N - (intOf u13).toNat)
  case atStart => exact ⟨0, by omega, rfl, rfl, Lib.hid (K6.out.alloc _), Lib.hid (Blk.new' _ _ _ _ HS.out rfl), Lib.hid (GI6.out.mono ((Below.refl _ _).alloc (Nat.le_refl _) _)), Lib.hid (B6.out.alloc B6.out.size _)⟩
  case round =>
    clear K6 B6 GI6
    obtain ⟨k, hk, rfl, rfl, K6, KS, GI6, hbe⟩ := hrel
    by_cases hlt : k < N
    · obtain ⟨b7, o7, e7, q0, q1, q2⟩ := AcA.at_ (HP.out.mono hbe.out) (k := k) (by rw [HE.out]; exact hlt)
      injection e7 with e7; injection e7 with e8 e9; subst e8; subst e9
      obtain ⟨b8, o8, e7, q3⟩ := GI6.out k (by rw [LN.out]; exact hlt)
      injection e7 with e7; injection e7 with e8 e9; subst e8; subst e9
      obtain ⟨-, -, y0, y1b⟩ := HK.out.w (j := k) (by rw [HE.out]; exact hlt)
      have LOk := LO.out k hlt
      have WBk := WB.out k hlt
      have ST : bestK l gs p (k + 1) = if k ≠ p ∧ (bestK l gs p k).2 < (l.getD k (0, 0, 0)).2.2 - gs.getD k 0 then ((l.getD k (0, 0, 0)).1, (l.getD k (0, 0, 0)).2.2 - gs.getD k 0) else bestK l gs p k := rfl
      obtain ⟨y, hy⟩ : ∃ y, l.getD k (0, 0, 0) = y := ⟨_, rfl⟩
      rw [hy] at q0 q1 q2 ST y0 y1b
      obtain ⟨z1, z2, z3⟩ := y
      simp only at q0 q1 q2 ST y0 y1b
      obtain ⟨u, hu⟩ : ∃ u, gs.getD k 0 = u := ⟨_, rfl⟩
      rw [hu] at ST q3 LOk
      have wr2 : IntKind.i64.wrap (z3 - u) = z3 - u := by rw [IntKind.wrap_i64]; omega
      have NX := Lib.hid (show ∀ r, bestK l gs p (k + 1) = r → ∀ W, Blk W S 49 #[.int .i64 r.1, .int .i64 0] → Blk W S 49 #[.int .i64 (bestK l gs p (k + 1)).1, .int .i64 0] from fun r e W h => by rw [e]; exact h)
      by_cases hkp : k = p
      · have t0 : ((k : Int) != (p : Int)) = false := by rw [hkp]; simp
        rw [if_neg (fun h => h.1 hkp)] at ST
        have STH := Lib.hid ST
        have E2 := Lib.hid (show (bestK l gs p (k + 1)).2 = (bestK l gs p k).2 by rw [ST])
        obtain ⟨B, hB⟩ : ∃ B, (bestK l gs p k).2 = B := ⟨_, rfl⟩
        rw [hB] at E2 ⊢
        clear ST hy hu hB hkp LOk WBk
        go_wp2
        go_quiet (fail)
        go_wp2
        go_roundw
        case rel => exact ⟨k + 1, by omega, by go_num, by rw [E2.out], Lib.hid (K6.out.drewN _), Lib.hid (NX.out _ STH.out _ (KS.out.drewN _)), Lib.hid (show IntsA _ _ _ from GI6.out), Lib.hid (below_dn hbe.out)⟩
        case measure => simp [intOf]; omega
      · have t0 : ((k : Int) != (p : Int)) = true := bne_iff_ne.2 (by omega)
        by_cases hbt : (bestK l gs p k).2 < z3 - u
        · rw [if_pos ⟨hkp, hbt⟩] at ST
          have STH := Lib.hid ST
          have E2 := Lib.hid (show (bestK l gs p (k + 1)).2 = z3 - u by rw [ST])
          obtain ⟨B, hB⟩ : ∃ B, (bestK l gs p k).2 = B := ⟨_, rfl⟩
          rw [hB] at hbt ⊢
          have t1 : decide (B < z3 - u) = true := decide_eq_true hbt
          clear ST hy hu hB LOk WBk hkp
          go_wp2
          go_quiet (fail)
          obtain ⟨wx, hwx⟩ : ∃ W, wr.drewN nq = W := ⟨_, rfl⟩
          have x0 : wx.cell? ⟨b, off + k * 3, none⟩ = some (.int .i64 z1) := by rw [← hwx]; exact q0
          have x2 : wx.cell? ⟨b, off + k * 3 + 2, none⟩ = some (.int .i64 z3) := by rw [← hwx]; exact q2
          have x3 : wx.cell? ⟨b6, o6 + k, none⟩ = some (.int .i64 u) := by rw [← hwx]; exact q3
          have KX := Lib.hid (show Blk wx w.heap.size 49 #[.int .i64 0, .int .i64 0] by rw [← hwx]; exact K6.out)
          have SX := Lib.hid (show Blk wx S 49 #[.int .i64 (bestK l gs p k).1, .int .i64 0] by rw [← hwx]; exact KS.out)
          have GX := Lib.hid (show IntsA wx (some ⟨b6, o6, none⟩) gs by rw [← hwx]; exact GI6.out)
          have BX := Lib.hid (show Below w.heap.size w wx by rw [← hwx]; exact below_dn hbe.out)
          have s0 := SX.out.cell 0
          have sf := SX.out.frozen 0
          obtain ⟨v0, hv0⟩ : ∃ v0, (bestK l gs p k).1 = v0 := ⟨_, rfl⟩
          rw [hv0] at s0
          change _ = some (Value.int .i64 v0) at s0
          have S2 := Lib.hid (show ∀ n, Blk ((wx.drewN n).setCell ⟨S, 0, none⟩ (.int .i64 z1)) S 49 #[.int .i64 z1, .int .i64 0] from fun n => Blk.set_ (show Blk (wx.drewN n) S _ _ from SX.out) 0 _)
          have K2 := Lib.hid (show ∀ n, Blk ((wx.drewN n).setCell ⟨S, 0, none⟩ (.int .i64 z1)) w.heap.size 49 #[.int .i64 0, .int .i64 0] from fun n => Blk.far (show Blk (wx.drewN n) _ _ _ from KX.out) (by simp; omega) _)
          have G2 := Lib.hid (show ∀ n, IntsA ((wx.drewN n).setCell ⟨S, 0, none⟩ (.int .i64 z1)) (some ⟨b6, o6, none⟩) gs from fun n i hi => by
            obtain ⟨bb, oo, e, hc⟩ := GX.out i hi
            injection e with e; injection e with e1 e2; subst e1; subst e2
            refine ⟨_, _, rfl, ?_⟩
            rw [World.cell?_setCell_far _ _ _ _ (by simp; omega)]
            exact hc)
          rw [hwx]
          clear hwx q0 q1 q2 q3 K6 KS GI6 hbe hv0
          go_wp2
          go_quiet (fail)
          go_wp2
          go_roundw
          case rel => exact ⟨k + 1, by omega, by go_num, by rw [E2.out], Lib.hid (K2.out _), Lib.hid (NX.out _ STH.out _ (S2.out _)), Lib.hid (G2.out _), Lib.hid ((below_dn BX.out).setCell (by simp; omega) _)⟩
          case measure => simp [intOf]; omega
        · rw [if_neg (fun h => hbt h.2)] at ST
          have STH := Lib.hid ST
          have E2 := Lib.hid (show (bestK l gs p (k + 1)).2 = (bestK l gs p k).2 by rw [ST])
          obtain ⟨B, hB⟩ : ∃ B, (bestK l gs p k).2 = B := ⟨_, rfl⟩
          rw [hB] at hbt E2 ⊢
          have t1 : decide (B < z3 - u) = false := decide_eq_false hbt
          clear ST hy hu hB LOk WBk hkp
          go_wp2
          go_quiet (fail)
          go_wp2
          go_roundw
          case rel => exact ⟨k + 1, by omega, by go_num, by rw [E2.out], Lib.hid (K6.out.drewN _), Lib.hid (NX.out _ STH.out _ (KS.out.drewN _)), Lib.hid (show IntsA _ _ _ from GI6.out), Lib.hid (below_dn hbe.out)⟩
          case measure => simp [intOf]; omega
    · have hkN : k = N := by omega
      have G := Lib.hid (show VictR c l x m ((bestK l gs p k).1, 0) by rw [hkN, ← HE.out, ← LA.out]; exact FN.out)
      obtain ⟨v, hv⟩ : ∃ v, (bestK l gs p k).1 = v := ⟨_, rfl⟩
      obtain ⟨B, hB⟩ : ∃ B, (bestK l gs p k).2 = B := ⟨_, rfl⟩
      rw [hv] at G KS
      rw [hB]
      have s0 := KS.out.cell 0
      have s1 := KS.out.cell 1
      change _ = some (Value.int .i64 v) at s0
      change _ = some (Value.int .i64 0) at s1
      clear hv hkN hB
      go_wp2_with (refine wpList_store_blk rfl _ _ _ rfl w.heap.size 49 _ #[.int .i64 v, .int .i64 0] rfl rfl K6.out infoF rfl (by simp [Value.oneCell']) rfl ?_)
      refine bodyPost_ret (v := .agg #[.int .i64 v, .int .i64 0]) (results_cell_row rfl _ _ _ 49 _ (0, 0) _ rfl (K6.out.row_ _) Try.underlying49 rfl infoF) rfl ?_
      exact ⟨(v, 0), rfl, G.out, below_setRow hbe.out (Nat.le_refl _) _⟩
theorem victimref_any (c : Int) (a : Option Addr) (cap : Nat) (l : List Ac) (x m : Int) (w : World) (hp : AcA w a l) (hok : OkA l) (hc : 0 ≤ c) (hcM : c ≤ 1099511627776) :
    Calls Try.prog 30 #[.int .i64 c, .slice a l.length cap, .int .i64 x, .int .i64 m] w (GivesF w c l x m) := by
  by_cases h : earlyV c l x m = none
  · exact victimref_late c a cap l x m w hp hok hc hcM h
  · exact victimref_early c a cap l x m w hp hok hc hcM h
end Go.Proofs.Ytjmegfejnocegaa
