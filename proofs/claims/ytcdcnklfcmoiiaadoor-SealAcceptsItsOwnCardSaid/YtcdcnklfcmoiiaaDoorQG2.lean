/- Contracts: Current of both. -/
import Derived.Test.YtcdcnklfcmoiiaaDoorQG
namespace Go.Proofs.YtcdcnklfcmoiiaaDoor
set_option linter.unusedVariables false
set_option linter.unusedSimpArgs false
open Go.RowKit Go.Sort
set_option maxRecDepth 100000 in
set_option maxHeartbeats 4000000 in
theorem cur_any (a : Option Addr) (c : Nat) (l : List Rw) (p lo hi : Int) (w : World) (hp : RwA w a l) (ok : RingOk l) :
    Calls Tryd.prog 18 #[.slice a l.length c, .int .i64 p, per lo hi] w fun e w' => e = .returned (.tuple #[.agg (encR (curL l p lo hi).1).toArray, .int .i64 (curL l p lo hi).2]) ∧ Below w.heap.size w w' := by
  have HP := Lib.hid hp
  have KO := Lib.hid (fun (X : World) (h : RwA X a l) => keysOf_any a c l p X h ok)
  have CN := Lib.hid (fun (f : Nat) (h : KeysAt l p f f) => cur_name (lo := lo) (hi := hi) h)
  have CA := Lib.hid (fun (f t i : Nat) (h : KeysAt l p f t) (h1 : f ≤ i) (h2 : i < t) (hc : countsB (l.getD i r0) lo hi = true) (hn : ∀ j, i < j → j < t → countsB (l.getD j r0) lo hi = false) => cur_at h h1 h2 hc hn)
  have CT := Lib.hid (fun (f t : Nat) (h : KeysAt l p f t) (h1 : f < t) (hn : ∀ j, f ≤ j → j < t → countsB (l.getD j r0) lo hi = false) => cur_time h h1 hn)
  have hm := ok.few
  obtain ⟨N, hN⟩ : ∃ N, l.length = N := ⟨_, rfl⟩
  have HE := Lib.hid hN
  obtain ⟨cu, hcu⟩ : ∃ z, curL l p lo hi = z := ⟨_, rfl⟩
  rw [hcu] at CN ⊢
  simp only [hcu] at CA CT
  rw [hN] at hm ⊢
  simp only [hN] at KO
  clear hp hN hcu ok
  go_enter Tryd.func18, Tryd.ntmps18
  obtain ⟨G, hG⟩ : ∃ G, w.heap.size = G := ⟨_, rfl⟩
  have HG := Lib.hid hG
  have Kp := Lib.hid (show Blk ((w.alloc (.cells #[.int .i64 lo, .int .i64 hi] 26)).alloc (.cells #[.int .i64 0, .int .i64 0, .string ⟨#[]⟩, .int .i64 0, .int .i64 0] 24)) (G) 26 #[.int .i64 lo, .int .i64 hi] from (Blk.new' _ _ _ _ hG rfl).alloc _)
  have Kr := Lib.hid (show Blk ((w.alloc (.cells #[.int .i64 lo, .int .i64 hi] 26)).alloc (.cells #[.int .i64 0, .int .i64 0, .string ⟨#[]⟩, .int .i64 0, .int .i64 0] 24)) (G + 1) 24 #[.int .i64 0, .int .i64 0, .string ⟨#[]⟩, .int .i64 0, .int .i64 0] from Blk.new' _ _ _ _ (by rw [World.size_alloc, hG]) rfl)
  have B := Lib.hid (show Below w.heap.size w ((w.alloc (.cells #[.int .i64 lo, .int .i64 hi] 26)).alloc (.cells #[.int .i64 0, .int .i64 0, .string ⟨#[]⟩, .int .i64 0, .int .i64 0] 24)) by (repeat' (first | (with_reducible exact Below.refl _ _) | (with_reducible assumption) | (with_reducible refine Below.alloc ?_ ?_ _) | (with_reducible refine Below.drew ?_) | (with_reducible refine below_dn ?_) | (with_reducible refine Below.setCell ?_ ?_ _) | (with_reducible exact Nat.le_refl _) | omega | (simp only [World.size_alloc, World.size_setCell, World.size_drew]; omega) | (simp; omega) | (simp; done))))
  go_upto_region 1 with (fail)
  try rw [hG]
  generalize hw0 : ((w.alloc (.cells #[.int .i64 lo, .int .i64 hi] 26)).alloc (.cells #[.int .i64 0, .int .i64 0, .string ⟨#[]⟩, .int .i64 0, .int .i64 0] 24)) = w0 at Kp Kr B ⊢
  clear hw0 hG
  obtain ⟨bpc0, bpc1⟩ := twob Kp.out
  obtain ⟨brc0, brc1, brc2, brc3, brc4⟩ := five Kr.out
  go_wp2_with fail
  refine (KO.out _ (HP.out.mono B.out)).mono ?_
  rintro e w1 ⟨⟨f, t, rfl, -, hka⟩, hb⟩
  have KA := Lib.hid hka
  replace Kp := Lib.hid (Kp.out.below hb Kp.out.lt)
  replace Kr := Lib.hid (Kr.out.below hb Kr.out.lt)
  replace B := Lib.hid (B.out.trans (hb.mono B.out.size))
  clear bpc0 bpc1 brc0 brc1 brc2 brc3 brc4
  clear hb hka
  obtain ⟨bpc0, bpc1⟩ := twob Kp.out
  obtain ⟨brc0, brc1, brc2, brc3, brc4⟩ := five Kr.out
  clear bpc0 bpc1 brc0 brc1 brc2 brc3 brc4
  clear KO
  have hft := KA.out.le
  have htN : t ≤ N := by have := KA.out.len; rw [HE.out] at this; exact this
  by_cases e0 : f = t
  · have t0 : ((f : Int) == (t : Int)) = true := by simp; omega
    have RY := Lib.hid (CN.out f (by have h := KA.out; rw [← e0] at h; exact h))
    clear e0 hft
    obtain ⟨bpc0, bpc1⟩ := twob Kp.out
    obtain ⟨brc0, brc1, brc2, brc3, brc4⟩ := five Kr.out
    have fzr := fun q => Kr.out.frozen q
    go_wp2
    have K9 := Lib.hid (show Blk (((((w1.setCell ⟨G + 1, 0, none⟩ (.int .i64 0)).setCell ⟨G + 1, 1, none⟩ (.int .i64 0)).setCell ⟨G + 1, 2, none⟩ (.string ⟨#[]⟩)).setCell ⟨G + 1, 3, none⟩ (.int .i64 0)).setCell ⟨G + 1, 4, none⟩ (.int .i64 0)) (G + 1) 24 #[.int .i64 0, .int .i64 0, .string ⟨#[]⟩, .int .i64 0, .int .i64 0] from (((((Kr.out.set_ 0 (.int .i64 0)).set_ 1 (.int .i64 0)).set_ 2 (.string ⟨#[]⟩)).set_ 3 (.int .i64 0)).set_ 4 (.int .i64 0)))
    have B9 := (((((B.out.setCell (p := ⟨G + 1, 0, none⟩) (show w.heap.size ≤ G + 1 by have := HG.out; omega) (.int .i64 0)).setCell (p := ⟨G + 1, 1, none⟩) (show w.heap.size ≤ G + 1 by have := HG.out; omega) (.int .i64 0)).setCell (p := ⟨G + 1, 2, none⟩) (show w.heap.size ≤ G + 1 by have := HG.out; omega) (.string ⟨#[]⟩)).setCell (p := ⟨G + 1, 3, none⟩) (show w.heap.size ≤ G + 1 by have := HG.out; omega) (.int .i64 0)).setCell (p := ⟨G + 1, 4, none⟩) (show w.heap.size ≤ G + 1 by have := HG.out; omega) (.int .i64 0))
    generalize hw2 : (((((w1.setCell ⟨G + 1, 0, none⟩ (.int .i64 0)).setCell ⟨G + 1, 1, none⟩ (.int .i64 0)).setCell ⟨G + 1, 2, none⟩ (.string ⟨#[]⟩)).setCell ⟨G + 1, 3, none⟩ (.int .i64 0)).setCell ⟨G + 1, 4, none⟩ (.int .i64 0)) = w9 at K9 B9 ⊢
    clear bpc0 bpc1 brc0 brc1 brc2 brc3 brc4 fzr
    clear hw2
    obtain ⟨d0, d1, d2, d3, d4⟩ := five K9.out
    refine bodyPost_ret (by simp [results, Tryd.results18, go_sem, d0, d1, d2, d3, d4]; try rfl) rfl ?_
    exact ⟨by rw [RY.out]; rfl, B9⟩
  · have t0 : ((f : Int) == (t : Int)) = false := by simp; omega
    have hlt0 : f < t := by omega
    have wt : IntKind.i64.wrap ((t : Int) - 1) = (t : Int) - 1 := by rw [IntKind.wrap_i64]; omega
    clear e0 hft
    obtain ⟨bpc0, bpc1⟩ := twob Kp.out
    go_wp2
    go_loopw [10] (fun u10 wr => ∃ (m : Nat) (i : Int), f ≤ m ∧ m ≤ t ∧ u10 = .int .i64 i ∧ Hid (i = (m : Int) - 1) ∧ Hid (∀ j, m ≤ j → j < t → countsB (l.getD j r0) lo hi = false) ∧ Hid (Blk wr G 26 #[.int .i64 lo, .int .i64 hi]) ∧ Hid (Blk wr (G + 1) 24 #[.int .i64 0, .int .i64 0, .string ⟨#[]⟩, .int .i64 0, .int .i64 0]) ∧ Hid (Below w.heap.size w wr)) (fun u10 _ => (intOf u10 + 1 - f).toNat)
    case atStart => exact ⟨t, (t : Int) - 1, by omega, Nat.le_refl _, rfl, Lib.hid rfl, Lib.hid (fun j h1 h2 => absurd h1 (by omega)), Kp, Kr, B⟩
    case round =>
      clear Kp Kr B bpc0 bpc1 wt
      obtain ⟨m, i, hfm, hmt, rfl, HI, HJ, Kp, Kr, B⟩ := hrel
      obtain ⟨bpc0, bpc1⟩ := twob Kp.out
      by_cases hlt2 : f < m
      · obtain ⟨k, hk⟩ : ∃ k, m = k + 1 := ⟨m - 1, by omega⟩
        subst hk
        obtain rfl : i = (k : Int) := by have := HI.out; omega
        have hlt : k < N := by omega
        have t1 : decide ((f : Int) ≤ (k : Int)) = true := decide_eq_true (by omega)
        have wk : IntKind.i64.wrap ((k : Int) - 1) = (k : Int) - 1 := by rw [IntKind.wrap_i64]; omega
        obtain ⟨b, off, rfl, q0, q1, q2, q3, q4⟩ := RwA.at_ (HP.out.mono B.out) (k := k) (by rw [HE.out]; exact hlt)
        obtain ⟨x, hx⟩ : ∃ y, l.getD k r0 = y := ⟨_, rfl⟩
        rw [hx] at q0 q1 q2 q3 q4
        have HX := Lib.hid hx
        clear hx
        have k0 : (0 : Int) ≤ (k : Int) := by omega
        have kN : (k : Int) < (N : Int) := by omega
        have zq := block_lt_of_cell q0
        have zp := Kp.out.lt
        have CO := Lib.hid (fun W : World => counts_any x lo hi W)
        cases hc : countsB x lo hi
        · rw [hc] at CO
          have HS := Lib.hid (show ∀ j, k ≤ j → j < t → countsB (l.getD j r0) lo hi = false from fun j h1 h2 => by
            rcases Nat.eq_or_lt_of_le h1 with rfl | h3
            · rw [HX.out]; exact hc
            · exact HJ.out j h3 h2)
          clear hc
          obtain ⟨x1, x2, x3, x4, x5⟩ := x
          simp only [encR] at q0 q1 q2 q3 q4 CO
          have QO := Lib.hid (fun (d : Nat) (os : Array Obj) => CO.out (grow (redrawn wr d) os))
          have gc := grow_cell3
          go_wp2_with fail
          refine wp_region_quiet_below (by kernel_rfl) (by kernel_rfl) ?_
          repeat (go_big_quiet_step (first | (with_reducible exact Calls.regrown_of (QO.out _ _))))
          refine wpQuiet_nil ?_
          intro wq hw'
          obtain ⟨⟨dq, osq⟩, hw''⟩ := hw'
          have hb := below_of_grow3 hw''
          clear hw'' gc
          replace Kp := Lib.hid (Kp.out.below hb Kp.out.lt)
          replace Kr := Lib.hid (Kr.out.below hb Kr.out.lt)
          replace B := Lib.hid (B.out.trans (hb.mono B.out.size))
          clear hb
          clear q0 q1 q2 q3 q4 zq zp QO CO bpc0 bpc1
          go_wp2
          go_roundw
          case rel => exact ⟨k, (k : Int) - 1, by omega, by omega, rfl, Lib.hid rfl, HS, Kp, Kr, B⟩
          case measure => simp [intOf]; omega
        · rw [hc] at CO
          have RY := Lib.hid (CA.out f t k KA.out (by omega) (by omega) (by rw [HX.out]; exact hc) (fun j h1 h2 => HJ.out j (by omega) h2))
          rw [HX.out] at RY
          clear hc
          obtain ⟨x1, x2, x3, x4, x5⟩ := x
          simp only [encR] at q0 q1 q2 q3 q4 CO
          have QO := Lib.hid (fun (d : Nat) (os : Array Obj) => CO.out (grow (redrawn wr d) os))
          have gc := grow_cell3
          go_wp2_with fail
          refine wp_region_quiet_below (by kernel_rfl) (by kernel_rfl) ?_
          repeat (go_big_quiet_step (first | (with_reducible exact Calls.regrown_of (QO.out _ _))))
          refine wpQuiet_nil ?_
          intro wq hw'
          obtain ⟨⟨dq, osq⟩, hw''⟩ := hw'
          have hb := below_of_grow3 hw''
          clear hw'' gc
          replace Kp := Lib.hid (Kp.out.below hb Kp.out.lt)
          replace Kr := Lib.hid (Kr.out.below hb Kr.out.lt)
          replace B := Lib.hid (B.out.trans (hb.mono B.out.size))
          clear hb
          clear q0 q1 q2 q3 q4 zq zp QO CO bpc0 bpc1
          obtain ⟨q0, q1, q2, q3, q4⟩ := RwA.cells_ (HP.out.mono B.out) (k := k) (by rw [HE.out]; exact hlt) rfl
          rw [HX.out] at q0 q1 q2 q3 q4
          simp only at q0 q1 q2 q3 q4
          obtain ⟨bpc0, bpc1⟩ := twob Kp.out
          obtain ⟨brc0, brc1, brc2, brc3, brc4⟩ := five Kr.out
          have fzr := fun q => Kr.out.frozen q
          go_wp2
          have K9 := Lib.hid (show Blk (((((wq.setCell ⟨G + 1, 0, none⟩ (.int .i64 x1)).setCell ⟨G + 1, 1, none⟩ (.int .i64 x2)).setCell ⟨G + 1, 2, none⟩ (.string x3)).setCell ⟨G + 1, 3, none⟩ (.int .i64 x4)).setCell ⟨G + 1, 4, none⟩ (.int .i64 x5)) (G + 1) 24 #[.int .i64 x1, .int .i64 x2, .string x3, .int .i64 x4, .int .i64 x5] from (((((Kr.out.set_ 0 (.int .i64 x1)).set_ 1 (.int .i64 x2)).set_ 2 (.string x3)).set_ 3 (.int .i64 x4)).set_ 4 (.int .i64 x5)))
          have B9 := (((((B.out.setCell (p := ⟨G + 1, 0, none⟩) (show w.heap.size ≤ G + 1 by have := HG.out; omega) (.int .i64 x1)).setCell (p := ⟨G + 1, 1, none⟩) (show w.heap.size ≤ G + 1 by have := HG.out; omega) (.int .i64 x2)).setCell (p := ⟨G + 1, 2, none⟩) (show w.heap.size ≤ G + 1 by have := HG.out; omega) (.string x3)).setCell (p := ⟨G + 1, 3, none⟩) (show w.heap.size ≤ G + 1 by have := HG.out; omega) (.int .i64 x4)).setCell (p := ⟨G + 1, 4, none⟩) (show w.heap.size ≤ G + 1 by have := HG.out; omega) (.int .i64 x5))
          generalize hw2 : (((((wq.setCell ⟨G + 1, 0, none⟩ (.int .i64 x1)).setCell ⟨G + 1, 1, none⟩ (.int .i64 x2)).setCell ⟨G + 1, 2, none⟩ (.string x3)).setCell ⟨G + 1, 3, none⟩ (.int .i64 x4)).setCell ⟨G + 1, 4, none⟩ (.int .i64 x5)) = w9 at K9 B9 ⊢
          clear bpc0 bpc1 brc0 brc1 brc2 brc3 brc4 fzr
          clear hw2
          obtain ⟨d0, d1, d2, d3, d4⟩ := five K9.out
          refine bodyPost_ret (by simp [results, Tryd.results18, go_sem, d0, d1, d2, d3, d4]; try rfl) rfl ?_
          exact ⟨by rw [RY.out]; rfl, B9⟩
      · have t1 : decide ((f : Int) ≤ i) = false := decide_eq_false (by have := HI.out; omega)
        have RY := Lib.hid (CT.out f t KA.out hlt0 (fun j h1 h2 => HJ.out j (by omega) h2))
        clear bpc0 bpc1
        obtain ⟨bpc0, bpc1⟩ := twob Kp.out
        obtain ⟨brc0, brc1, brc2, brc3, brc4⟩ := five Kr.out
        have fzr := fun q => Kr.out.frozen q
        go_wp2
        have K9 := Lib.hid (show Blk (((((wr.setCell ⟨G + 1, 0, none⟩ (.int .i64 0)).setCell ⟨G + 1, 1, none⟩ (.int .i64 0)).setCell ⟨G + 1, 2, none⟩ (.string ⟨#[]⟩)).setCell ⟨G + 1, 3, none⟩ (.int .i64 0)).setCell ⟨G + 1, 4, none⟩ (.int .i64 0)) (G + 1) 24 #[.int .i64 0, .int .i64 0, .string ⟨#[]⟩, .int .i64 0, .int .i64 0] from (((((Kr.out.set_ 0 (.int .i64 0)).set_ 1 (.int .i64 0)).set_ 2 (.string ⟨#[]⟩)).set_ 3 (.int .i64 0)).set_ 4 (.int .i64 0)))
        have B9 := (((((B.out.setCell (p := ⟨G + 1, 0, none⟩) (show w.heap.size ≤ G + 1 by have := HG.out; omega) (.int .i64 0)).setCell (p := ⟨G + 1, 1, none⟩) (show w.heap.size ≤ G + 1 by have := HG.out; omega) (.int .i64 0)).setCell (p := ⟨G + 1, 2, none⟩) (show w.heap.size ≤ G + 1 by have := HG.out; omega) (.string ⟨#[]⟩)).setCell (p := ⟨G + 1, 3, none⟩) (show w.heap.size ≤ G + 1 by have := HG.out; omega) (.int .i64 0)).setCell (p := ⟨G + 1, 4, none⟩) (show w.heap.size ≤ G + 1 by have := HG.out; omega) (.int .i64 0))
        generalize hw2 : (((((wr.setCell ⟨G + 1, 0, none⟩ (.int .i64 0)).setCell ⟨G + 1, 1, none⟩ (.int .i64 0)).setCell ⟨G + 1, 2, none⟩ (.string ⟨#[]⟩)).setCell ⟨G + 1, 3, none⟩ (.int .i64 0)).setCell ⟨G + 1, 4, none⟩ (.int .i64 0)) = w9 at K9 B9 ⊢
        clear bpc0 bpc1 brc0 brc1 brc2 brc3 brc4 fzr
        clear hw2
        obtain ⟨d0, d1, d2, d3, d4⟩ := five K9.out
        refine bodyPost_ret (by simp [results, Tryd.results18, go_sem, d0, d1, d2, d3, d4]; try rfl) rfl ?_
        exact ⟨by rw [RY.out]; rfl, B9⟩
set_option maxRecDepth 100000 in
set_option maxHeartbeats 4000000 in
theorem rcur_any (a : Option Addr) (c : Nat) (l : List Rw) (p lo hi : Int) (w : World) (hp : RwA w a l) (hm : l.length ≤ 1000000) :
    Calls Tryd.prog 19 #[.slice a l.length c, .int .i64 p, per lo hi] w fun e w' => e = .returned (.agg (encR (curL l p lo hi).1 ++ [Value.int .i64 (curL l p lo hi).2]).toArray) ∧ Below w.heap.size w w' := by
  have HP := Lib.hid hp
  have HC := Lib.hid (fun k : Nat => show curK l p lo hi (k + 1) = curS p lo hi (curK l p lo hi k) (l.getD k r0) from rfl)
  obtain ⟨N, hN⟩ : ∃ N, l.length = N := ⟨_, rfl⟩
  have HE := Lib.hid hN
  have HL := Lib.hid (show curK l p lo hi N = curL l p lo hi from by rw [← hN]; rfl)
  obtain ⟨cu, hcu⟩ : ∃ z, curL l p lo hi = z := ⟨_, rfl⟩
  rw [hcu] at HL ⊢
  rw [hN] at hm ⊢
  clear hp hN hcu
  go_enter Tryd.func19, Tryd.ntmps19
  obtain ⟨G, hG⟩ : ∃ G, w.heap.size = G := ⟨_, rfl⟩
  have HG := Lib.hid hG
  have Kp := Lib.hid (show Blk ((w.alloc (.cells #[.int .i64 lo, .int .i64 hi] 26)).alloc (.cells #[.int .i64 0, .int .i64 0, .string ⟨#[]⟩, .int .i64 0, .int .i64 0, .int .i64 0] 40)) (G) 26 #[.int .i64 lo, .int .i64 hi] from (Blk.new' _ _ _ _ hG rfl).alloc _)
  have Kr := Lib.hid (show Blk ((w.alloc (.cells #[.int .i64 lo, .int .i64 hi] 26)).alloc (.cells #[.int .i64 0, .int .i64 0, .string ⟨#[]⟩, .int .i64 0, .int .i64 0, .int .i64 0] 40)) (G + 1) 40 #[.int .i64 0, .int .i64 0, .string ⟨#[]⟩, .int .i64 0, .int .i64 0, .int .i64 0] from Blk.new' _ _ _ _ (by rw [World.size_alloc, hG]) rfl)
  have B := Lib.hid (show Below w.heap.size w ((w.alloc (.cells #[.int .i64 lo, .int .i64 hi] 26)).alloc (.cells #[.int .i64 0, .int .i64 0, .string ⟨#[]⟩, .int .i64 0, .int .i64 0, .int .i64 0] 40)) by (repeat' (first | (with_reducible exact Below.refl _ _) | (with_reducible assumption) | (with_reducible refine Below.alloc ?_ ?_ _) | (with_reducible refine Below.drew ?_) | (with_reducible refine below_dn ?_) | (with_reducible refine Below.setCell ?_ ?_ _) | (with_reducible exact Nat.le_refl _) | omega | (simp only [World.size_alloc, World.size_setCell, World.size_drew]; omega) | (simp; omega) | (simp; done))))
  go_upto_region 1 with (fail)
  try rw [hG]
  generalize hw0 : ((w.alloc (.cells #[.int .i64 lo, .int .i64 hi] 26)).alloc (.cells #[.int .i64 0, .int .i64 0, .string ⟨#[]⟩, .int .i64 0, .int .i64 0, .int .i64 0] 40)) = w0 at Kp Kr B ⊢
  clear hw0 hG
  obtain ⟨bpc0, bpc1⟩ := twob Kp.out
  obtain ⟨brc0, brc1, brc2, brc3, brc4, brc5⟩ := six Kr.out
  obtain ⟨go, hgo⟩ : ∃ G, w0.heap.size = G := ⟨_, rfl⟩
  have Ko := Lib.hid (show Blk (w0.alloc (.cells #[.int .i64 0, .int .i64 0, .string ⟨#[]⟩, .int .i64 0, .int .i64 0, .int .i64 5] 40)) go 40 #[.int .i64 0, .int .i64 0, .string ⟨#[]⟩, .int .i64 0, .int .i64 0, .int .i64 5] from Blk.new' w0 _ _ _ hgo rfl)
  have Npo := Lib.hid (show G < go from by rw [← hgo]; exact Kp.out.lt)
  replace Kp := Lib.hid (Kp.out.alloc (.cells #[.int .i64 0, .int .i64 0, .string ⟨#[]⟩, .int .i64 0, .int .i64 0, .int .i64 5] 40))
  have Nro := Lib.hid (show G + 1 < go from by rw [← hgo]; exact Kr.out.lt)
  replace Kr := Lib.hid (Kr.out.alloc (.cells #[.int .i64 0, .int .i64 0, .string ⟨#[]⟩, .int .i64 0, .int .i64 0, .int .i64 5] 40))
  have Lo := Lib.hid (show w.heap.size ≤ go from by rw [← hgo]; exact B.out.size)
  replace B := Lib.hid (B.out.alloc B.out.size (.cells #[.int .i64 0, .int .i64 0, .string ⟨#[]⟩, .int .i64 0, .int .i64 0, .int .i64 5] 40))
  go_upto_region 2 with (fail)
  try rw [hgo]
  generalize hw : w0.alloc (.cells #[.int .i64 0, .int .i64 0, .string ⟨#[]⟩, .int .i64 0, .int .i64 0, .int .i64 5] 40) = w1 at Kp Kr Ko  B ⊢
  clear bpc0 bpc1 brc0 brc1 brc2 brc3 brc4 brc5
  clear hw hgo
  go_wp2
  go_loopw [8] (fun u8 wr => ∃ (k : Nat) (s1 s2 : Int) (s3 : ByteArray) (s4 s5 se : Int), k ≤ N ∧ u8 = .int .i64 k ∧ Hid (curK l p lo hi k = ((s1, s2, s3, s4, s5), se)) ∧ Hid (Blk wr go 40 #[.int .i64 s1, .int .i64 s2, .string s3, .int .i64 s4, .int .i64 s5, .int .i64 se]) ∧ Hid (Blk wr G 26 #[.int .i64 lo, .int .i64 hi]) ∧ Hid (Blk wr (G + 1) 40 #[.int .i64 0, .int .i64 0, .string ⟨#[]⟩, .int .i64 0, .int .i64 0, .int .i64 0]) ∧ Hid (Below w.heap.size w wr)) (fun u8 _ => (N - intOf u8).toNat)
  case atStart => exact ⟨0, 0, 0, ⟨#[]⟩, 0, 0, 5, by omega, rfl, Lib.hid rfl, Ko, Kp, Kr, B⟩
  case round =>
    clear Kp Kr Ko B
    obtain ⟨k, s1, s2, s3, s4, s5, se, hk, rfl, HS, Ko, Kp, Kr, B⟩ := hrel
    obtain ⟨bpc0, bpc1⟩ := twob Kp.out
    obtain ⟨c0, c1, c2, c3, c4, c5⟩ := six Ko.out
    by_cases hlt : k < N
    · have t0 : decide ((k : Int) < (N : Int)) = true := decide_eq_true (by omega)
      have wk : IntKind.i64.wrap ((k : Int) + 1) = (k : Int) + 1 := by rw [IntKind.wrap_i64]; omega
      obtain ⟨b, off, rfl, q0, q1, q2, q3, q4⟩ := RwA.at_ (HP.out.mono B.out) (k := k) (by rw [HE.out]; exact hlt)
      obtain ⟨x, hx⟩ : ∃ y, l.getD k r0 = y := ⟨_, rfl⟩
      rw [hx] at q0 q1 q2 q3 q4
      have HX := Lib.hid hx
      clear hx
      have k0 : (0 : Int) ≤ (k : Int) := by omega
      have kN : (k : Int) < (N : Int) := by omega
      have HN := HC.out k
      rw [HS.out, HX.out] at HN
      unfold curS at HN
      have zq := block_lt_of_cell q0
      have zp := Kp.out.lt
      have zo := Ko.out.lt
      have CO := Lib.hid (fun W : World => rcounts_any x lo hi W)
      by_cases e1 : x.1 = p
      · rw [if_pos e1] at HN
        cases hc : countsB x lo hi
        · rw [hc] at CO HN
          rw [if_neg (by decide)] at HN
          have HN2 := Lib.hid HN
          clear hc HN
          obtain ⟨x1, x2, x3, x4, x5⟩ := x
          simp only [encR] at q0 q1 q2 q3 q4 CO
          have t1 : (x1 != p) = false := by simp; exact e1
          clear e1
          have QO := Lib.hid (fun (d : Nat) (os : Array Obj) => CO.out (grow (redrawn wr d) os))
          have gc := grow_cell3
          go_wp2_with fail
          refine wp_region_quiet_below (by kernel_rfl) (by kernel_rfl) ?_
          repeat (go_big_quiet_step (first | (with_reducible exact Calls.regrown_of (QO.out _ _))))
          refine wpQuiet_nil ?_
          intro wq hw'
          obtain ⟨⟨dq, osq⟩, hw''⟩ := hw'
          have hb := below_of_grow3 hw''
          clear hw'' gc
          replace Kp := Lib.hid (Kp.out.below hb Kp.out.lt)
          replace Kr := Lib.hid (Kr.out.below hb Kr.out.lt)
          replace Ko := Lib.hid (Ko.out.below hb Ko.out.lt)
          replace B := Lib.hid (B.out.trans (hb.mono B.out.size))
          clear hb
          clear q0 q1 q2 q3 q4 zq zp zo QO CO bpc0 bpc1 c0 c1 c2 c3 c4 c5
          obtain ⟨c0, c1, c2, c3, c4, c5⟩ := six Ko.out
          by_cases e5 : se = 5
          · have t2 : (se == 5) = true := beq_iff_eq.2 e5
            have HN3 := HN2.out
            rw [if_pos e5] at HN3
            have HN4 := Lib.hid HN3
            clear e5 HN3
            have fzo := fun q => Ko.out.frozen q
            replace Kp := Lib.hid (show Blk (wq.setCell ⟨go, 5, none⟩ (.int .i64 9)) (G) 26 _ from (Kp.out.far (p := ⟨go, 5, none⟩) (by have := Npo.out; show G ≠ go; omega) (.int .i64 9)))
            replace Kr := Lib.hid (show Blk (wq.setCell ⟨go, 5, none⟩ (.int .i64 9)) (G + 1) 40 _ from (Kr.out.far (p := ⟨go, 5, none⟩) (by have := Nro.out; show G + 1 ≠ go; omega) (.int .i64 9)))
            replace B := Lib.hid (show Below w.heap.size w (wq.setCell ⟨go, 5, none⟩ (.int .i64 9)) from (B.out.setCell (p := ⟨go, 5, none⟩) Lo.out (.int .i64 9)))
            replace Ko := Lib.hid (show Blk (wq.setCell ⟨go, 5, none⟩ (.int .i64 9)) go 40 #[.int .i64 s1, .int .i64 s2, .string s3, .int .i64 s4, .int .i64 s5, .int .i64 9] from (Ko.out.set_ 5 (.int .i64 9)))
            go_wp2
            generalize hw : (wq.setCell ⟨go, 5, none⟩ (.int .i64 9)) = ws at Kp Kr Ko B ⊢
            clear hw fzo c0 c1 c2 c3 c4 c5
            go_roundw
            case rel => exact ⟨k + 1, s1, s2, s3, s4, s5, 9, by omega, by go_num, HN4, Ko, Kp, Kr, B⟩
            case measure => simp [intOf]; omega
          · have t2 : (se == 5) = false := beq_eq_false_iff_ne.2 e5
            have HN3 := HN2.out
            rw [if_neg e5] at HN3
            have HN4 := Lib.hid HN3
            clear e5 HN3
            go_wp2
            go_roundw
            case rel => exact ⟨k + 1, s1, s2, s3, s4, s5, se, by omega, by go_num, HN4, Ko, Kp, Kr, B⟩
            case measure => simp [intOf]; omega
        · rw [hc] at CO HN
          rw [if_pos rfl] at HN
          have HN4 := Lib.hid HN
          clear hc HN
          obtain ⟨x1, x2, x3, x4, x5⟩ := x
          simp only [encR] at q0 q1 q2 q3 q4 CO
          have t1 : (x1 != p) = false := by simp; exact e1
          clear e1
          have QO := Lib.hid (fun (d : Nat) (os : Array Obj) => CO.out (grow (redrawn wr d) os))
          have gc := grow_cell3
          go_wp2_with fail
          refine wp_region_quiet_below (by kernel_rfl) (by kernel_rfl) ?_
          repeat (go_big_quiet_step (first | (with_reducible exact Calls.regrown_of (QO.out _ _))))
          refine wpQuiet_nil ?_
          intro wq hw'
          obtain ⟨⟨dq, osq⟩, hw''⟩ := hw'
          have hb := below_of_grow3 hw''
          clear hw'' gc
          replace Kp := Lib.hid (Kp.out.below hb Kp.out.lt)
          replace Kr := Lib.hid (Kr.out.below hb Kr.out.lt)
          replace Ko := Lib.hid (Ko.out.below hb Ko.out.lt)
          replace B := Lib.hid (B.out.trans (hb.mono B.out.size))
          clear hb
          clear q0 q1 q2 q3 q4 zq zp zo QO CO bpc0 bpc1 c0 c1 c2 c3 c4 c5
          obtain ⟨c0, c1, c2, c3, c4, c5⟩ := six Ko.out
          obtain ⟨q0, q1, q2, q3, q4⟩ := RwA.cells_ (HP.out.mono B.out) (k := k) (by rw [HE.out]; exact hlt) rfl
          rw [HX.out] at q0 q1 q2 q3 q4
          simp only at q0 q1 q2 q3 q4
          have fzo := fun q => Ko.out.frozen q
          replace Kp := Lib.hid (show Blk ((((((wq.setCell ⟨go, 0, none⟩ (.int .i64 x1)).setCell ⟨go, 1, none⟩ (.int .i64 x2)).setCell ⟨go, 2, none⟩ (.string x3)).setCell ⟨go, 3, none⟩ (.int .i64 x4)).setCell ⟨go, 4, none⟩ (.int .i64 x5)).setCell ⟨go, 5, none⟩ (.int .i64 0)) (G) 26 _ from ((((((Kp.out.far (p := ⟨go, 0, none⟩) (by have := Npo.out; show G ≠ go; omega) (.int .i64 x1)).far (p := ⟨go, 1, none⟩) (by have := Npo.out; show G ≠ go; omega) (.int .i64 x2)).far (p := ⟨go, 2, none⟩) (by have := Npo.out; show G ≠ go; omega) (.string x3)).far (p := ⟨go, 3, none⟩) (by have := Npo.out; show G ≠ go; omega) (.int .i64 x4)).far (p := ⟨go, 4, none⟩) (by have := Npo.out; show G ≠ go; omega) (.int .i64 x5)).far (p := ⟨go, 5, none⟩) (by have := Npo.out; show G ≠ go; omega) (.int .i64 0)))
          replace Kr := Lib.hid (show Blk ((((((wq.setCell ⟨go, 0, none⟩ (.int .i64 x1)).setCell ⟨go, 1, none⟩ (.int .i64 x2)).setCell ⟨go, 2, none⟩ (.string x3)).setCell ⟨go, 3, none⟩ (.int .i64 x4)).setCell ⟨go, 4, none⟩ (.int .i64 x5)).setCell ⟨go, 5, none⟩ (.int .i64 0)) (G + 1) 40 _ from ((((((Kr.out.far (p := ⟨go, 0, none⟩) (by have := Nro.out; show G + 1 ≠ go; omega) (.int .i64 x1)).far (p := ⟨go, 1, none⟩) (by have := Nro.out; show G + 1 ≠ go; omega) (.int .i64 x2)).far (p := ⟨go, 2, none⟩) (by have := Nro.out; show G + 1 ≠ go; omega) (.string x3)).far (p := ⟨go, 3, none⟩) (by have := Nro.out; show G + 1 ≠ go; omega) (.int .i64 x4)).far (p := ⟨go, 4, none⟩) (by have := Nro.out; show G + 1 ≠ go; omega) (.int .i64 x5)).far (p := ⟨go, 5, none⟩) (by have := Nro.out; show G + 1 ≠ go; omega) (.int .i64 0)))
          replace B := Lib.hid (show Below w.heap.size w ((((((wq.setCell ⟨go, 0, none⟩ (.int .i64 x1)).setCell ⟨go, 1, none⟩ (.int .i64 x2)).setCell ⟨go, 2, none⟩ (.string x3)).setCell ⟨go, 3, none⟩ (.int .i64 x4)).setCell ⟨go, 4, none⟩ (.int .i64 x5)).setCell ⟨go, 5, none⟩ (.int .i64 0)) from ((((((B.out.setCell (p := ⟨go, 0, none⟩) Lo.out (.int .i64 x1)).setCell (p := ⟨go, 1, none⟩) Lo.out (.int .i64 x2)).setCell (p := ⟨go, 2, none⟩) Lo.out (.string x3)).setCell (p := ⟨go, 3, none⟩) Lo.out (.int .i64 x4)).setCell (p := ⟨go, 4, none⟩) Lo.out (.int .i64 x5)).setCell (p := ⟨go, 5, none⟩) Lo.out (.int .i64 0)))
          replace Ko := Lib.hid (show Blk ((((((wq.setCell ⟨go, 0, none⟩ (.int .i64 x1)).setCell ⟨go, 1, none⟩ (.int .i64 x2)).setCell ⟨go, 2, none⟩ (.string x3)).setCell ⟨go, 3, none⟩ (.int .i64 x4)).setCell ⟨go, 4, none⟩ (.int .i64 x5)).setCell ⟨go, 5, none⟩ (.int .i64 0)) go 40 #[.int .i64 x1, .int .i64 x2, .string x3, .int .i64 x4, .int .i64 x5, .int .i64 0] from ((((((Ko.out.set_ 0 (.int .i64 x1)).set_ 1 (.int .i64 x2)).set_ 2 (.string x3)).set_ 3 (.int .i64 x4)).set_ 4 (.int .i64 x5)).set_ 5 (.int .i64 0)))
          go_upto_region 8 with (fail)
          generalize hw : ((((((wq.setCell ⟨go, 0, none⟩ (.int .i64 x1)).setCell ⟨go, 1, none⟩ (.int .i64 x2)).setCell ⟨go, 2, none⟩ (.string x3)).setCell ⟨go, 3, none⟩ (.int .i64 x4)).setCell ⟨go, 4, none⟩ (.int .i64 x5)).setCell ⟨go, 5, none⟩ (.int .i64 0)) = ws at Kp Kr Ko B ⊢
          clear hw fzo c0 c1 c2 c3 c4 c5 q0 q1 q2 q3 q4
          obtain ⟨c0, c1, c2, c3, c4, c5⟩ := six Ko.out
          go_wp2
          go_roundw
          case rel => exact ⟨k + 1, x1, x2, x3, x4, x5, 0, by omega, by go_num, HN4, Ko, Kp, Kr, B⟩
          case measure => simp [intOf]; omega
      · rw [if_neg e1] at HN
        have HN4 := Lib.hid HN
        clear HN
        obtain ⟨x1, x2, x3, x4, x5⟩ := x
        simp only at q0 q1 q2 q3 q4
        have t1 : (x1 != p) = true := by simp; exact e1
        clear e1
        go_wp2
        go_roundw
        case rel => exact ⟨k + 1, s1, s2, s3, s4, s5, se, by omega, by go_num, HN4, Ko, Kp, Kr, B⟩
        case measure => simp [intOf]; omega
    · obtain rfl : k = N := by omega
      have RY := Lib.hid (show cu = ((s1, s2, s3, s4, s5), se) by rw [← HL.out]; exact HS.out)
      clear bpc0 bpc1
      obtain ⟨brc0, brc1, brc2, brc3, brc4, brc5⟩ := six Kr.out
      have fzr := fun q => Kr.out.frozen q
      go_wp2
      have K9 := Lib.hid (show Blk ((((((wr.setCell ⟨G + 1, 0, none⟩ (.int .i64 s1)).setCell ⟨G + 1, 1, none⟩ (.int .i64 s2)).setCell ⟨G + 1, 2, none⟩ (.string s3)).setCell ⟨G + 1, 3, none⟩ (.int .i64 s4)).setCell ⟨G + 1, 4, none⟩ (.int .i64 s5)).setCell ⟨G + 1, 5, none⟩ (.int .i64 se)) (G + 1) 40 #[.int .i64 s1, .int .i64 s2, .string s3, .int .i64 s4, .int .i64 s5, .int .i64 se] from ((((((Kr.out.set_ 0 (.int .i64 s1)).set_ 1 (.int .i64 s2)).set_ 2 (.string s3)).set_ 3 (.int .i64 s4)).set_ 4 (.int .i64 s5)).set_ 5 (.int .i64 se)))
      have B9 := ((((((B.out.setCell (p := ⟨G + 1, 0, none⟩) (show w.heap.size ≤ G + 1 by have := HG.out; omega) (.int .i64 s1)).setCell (p := ⟨G + 1, 1, none⟩) (show w.heap.size ≤ G + 1 by have := HG.out; omega) (.int .i64 s2)).setCell (p := ⟨G + 1, 2, none⟩) (show w.heap.size ≤ G + 1 by have := HG.out; omega) (.string s3)).setCell (p := ⟨G + 1, 3, none⟩) (show w.heap.size ≤ G + 1 by have := HG.out; omega) (.int .i64 s4)).setCell (p := ⟨G + 1, 4, none⟩) (show w.heap.size ≤ G + 1 by have := HG.out; omega) (.int .i64 s5)).setCell (p := ⟨G + 1, 5, none⟩) (show w.heap.size ≤ G + 1 by have := HG.out; omega) (.int .i64 se))
      generalize hw2 : ((((((wr.setCell ⟨G + 1, 0, none⟩ (.int .i64 s1)).setCell ⟨G + 1, 1, none⟩ (.int .i64 s2)).setCell ⟨G + 1, 2, none⟩ (.string s3)).setCell ⟨G + 1, 3, none⟩ (.int .i64 s4)).setCell ⟨G + 1, 4, none⟩ (.int .i64 s5)).setCell ⟨G + 1, 5, none⟩ (.int .i64 se)) = w9 at K9 B9 ⊢
      clear brc0 brc1 brc2 brc3 brc4 brc5 fzr
      clear hw2
      obtain ⟨d0, d1, d2, d3, d4, d5⟩ := six K9.out
      refine bodyPost_ret (by simp [results, Tryd.results19, go_sem, d0, d1, d2, d3, d4, d5]; try rfl) rfl ?_
      exact ⟨by rw [RY.out]; rfl, B9⟩
end Go.Proofs.YtcdcnklfcmoiiaaDoor
