import Derived.Test.YtcgdhankllphgaaRGV
import Derived.Test.YtcgdhankllphgaaRPE
namespace Go.Proofs.Ytcgdhankllphgaa
set_option linter.unusedVariables false
set_option linter.unusedSimpArgs false
set_option linter.unusedSectionVars false
open Go.RowKit
def spendL (l : List Rw) (wi : Int) : List Rw := withL l ((coinL l wi).1, (coinL l wi).2.1, (coinL l wi).2.2.1 + 1, (coinL l wi).2.2.2)
theorem quo_bd {x f : Int} (hx : 0 ≤ x) (hf : 0 < f) : 0 ≤ x / f ∧ x / f ≤ x := by
  have h1 : 0 ≤ x / f := Int.ediv_nonneg hx (by omega)
  have h2 : x / f * f ≤ x := Int.ediv_mul_le x (by omega)
  have h3 : x / f * 1 ≤ x / f * f := Int.mul_le_mul_of_nonneg_left (by omega) h1
  omega
set_option maxRecDepth 100000 in
set_option maxHeartbeats 4000000 in
theorem spend_time (len : Int) (a : Option Addr) (c : Nat) (l : List Rw) (lo hi : Int) (w : World) (hp : RwA w a l) (ok : OkP len l) (p1 : perB lo hi = true) (h : lo / len ≠ hi / len) :
    Calls Try.prog 26 #[.agg #[.int .i64 len, .slice a l.length c], per lo hi] w fun e w' => e = .returned (.tuple #[.agg #[.int .i64 0, .slice none 0 0], .int .i64 9]) ∧ Below w.heap.size w w' := by
  have C := Lib.hid (fun (X : World) (h : RwA X a l) => validp_yes ok a c X h)
  have CV := Lib.hid (fun X : World => cvalid_any lo hi X)
  obtain ⟨g1, g2, g3⟩ := perB_yes p1
  obtain ⟨⟨l1, l2⟩, hm⟩ := ok.head
  have tl : lo.tdiv len = lo / len := Int.tdiv_eq_ediv_of_nonneg g1
  have th : hi.tdiv len = hi / len := Int.tdiv_eq_ediv_of_nonneg (by omega)
  obtain ⟨u1, u2⟩ := quo_bd (x := lo) (f := len) g1 (by omega)
  obtain ⟨u3, u4⟩ := quo_bd (x := hi) (f := len) (by omega) (by omega)
  have z0 : decide (len = 0) = false := decide_eq_false (by omega)
  have zl : len ≠ 0 := by omega
  have wl : IntKind.i64.wrap (lo / len) = lo / len := by rw [IntKind.wrap_i64]; omega
  have wh : IntKind.i64.wrap (hi / len) = hi / len := by rw [IntKind.wrap_i64]; omega
  have pw : winOk (lo / len) := ⟨u1, by omega⟩
  have HP := Lib.hid hp
  obtain ⟨N, hN⟩ : ∃ N, l.length = N := ⟨_, rfl⟩
  simp only [hN] at C
  rw [hN]
  obtain ⟨wi, hwi⟩ : ∃ x, lo / len = x := ⟨_, rfl⟩
  obtain ⟨vi, hvi⟩ : ∃ x, hi / len = x := ⟨_, rfl⟩
  rw [hwi] at tl wl h
  rw [hvi] at th wh h
  have t9 : (wi != vi) = true := bne_iff_ne.2 h
  rw [p1] at CV
  clear hp ok p1 hN u1 u2 u3 u4 g1 g2 g3 l1 l2 hm pw h hwi hvi
  go_enter Try.func26, Try.ntmps26
  obtain ⟨G, hG⟩ : ∃ G, w.heap.size = G := ⟨_, rfl⟩
  have K1 := Lib.hid (show Blk (((w.alloc (.cells #[.int .i64 len, .slice a N c] 45)).alloc (.cells #[.int .i64 lo, .int .i64 hi] 26)).alloc (.cells #[.int .i64 0, .slice none 0 0] 45)) G 45 #[.int .i64 len, .slice a N c] from ((Blk.new' w _ _ _ hG rfl).alloc _).alloc _)
  have KT := Lib.hid (show Blk (((w.alloc (.cells #[.int .i64 len, .slice a N c] 45)).alloc (.cells #[.int .i64 lo, .int .i64 hi] 26)).alloc (.cells #[.int .i64 0, .slice none 0 0] 45)) (G + 1) 26 #[.int .i64 lo, .int .i64 hi] from (Blk.new' _ _ _ _ (by rw [World.size_alloc, hG]) rfl).alloc _)
  have K2 := Lib.hid (show Blk (((w.alloc (.cells #[.int .i64 len, .slice a N c] 45)).alloc (.cells #[.int .i64 lo, .int .i64 hi] 26)).alloc (.cells #[.int .i64 0, .slice none 0 0] 45)) (G + 1 + 1) 45 #[.int .i64 0, .slice none 0 0] from Blk.new' _ _ _ _ (by rw [World.size_alloc, World.size_alloc, hG]) rfl)
  have B := Lib.hid (show Below G w (((w.alloc (.cells #[.int .i64 len, .slice a N c] 45)).alloc (.cells #[.int .i64 lo, .int .i64 hi] 26)).alloc (.cells #[.int .i64 0, .slice none 0 0] 45)) by rw [← hG]; (repeat' (first | (with_reducible exact Below.refl _ _) | (with_reducible assumption) | (with_reducible refine Below.alloc ?_ ?_ _) | (with_reducible refine Below.drew ?_) | (with_reducible refine below_dn ?_) | (with_reducible refine Below.setCell ?_ ?_ _) | (with_reducible exact Nat.le_refl _) | omega | (simp only [World.size_alloc, World.size_setCell, World.size_drew]; omega) | (simp; omega) | (simp; done))))
  have HG := Lib.hid hG
  have H0 := Lib.hid (HP.out.mono (show Below w.heap.size w (((w.alloc (.cells #[.int .i64 len, .slice a N c] 45)).alloc (.cells #[.int .i64 lo, .int .i64 hi] 26)).alloc (.cells #[.int .i64 0, .slice none 0 0] 45)) by (repeat' (first | (with_reducible exact Below.refl _ _) | (with_reducible assumption) | (with_reducible refine Below.alloc ?_ ?_ _) | (with_reducible refine Below.drew ?_) | (with_reducible refine below_dn ?_) | (with_reducible refine Below.setCell ?_ ?_ _) | (with_reducible exact Nat.le_refl _) | omega | (simp only [World.size_alloc, World.size_setCell, World.size_drew]; omega) | (simp; omega) | (simp; done)))))
  go_upto_region 1 with (fail)
  try rw [hG]
  generalize hw0 : (((w.alloc (.cells #[.int .i64 len, .slice a N c] 45)).alloc (.cells #[.int .i64 lo, .int .i64 hi] 26)).alloc (.cells #[.int .i64 0, .slice none 0 0] 45)) = w0 at K1 K2 KT B H0 ⊢
  clear hw0 hG
  obtain ⟨d0, d1⟩ := twob K1.out
  obtain ⟨h0, h1⟩ := twob K2.out
  have fz := fun q => K2.out.frozen q
  obtain ⟨t0, t1⟩ := twob KT.out
  go_wp2_with fail
  refine (C.out _ H0.out).mono ?_
  rintro e w1 ⟨rfl, hb⟩
  replace K1 := Lib.hid (K1.out.below hb K1.out.lt)
  replace K2 := Lib.hid (K2.out.below hb K2.out.lt)
  replace B := Lib.hid (B.out.trans (hb.mono (by have := B.out.size; have := HG.out; omega)))
  replace KT := Lib.hid (KT.out.below hb KT.out.lt)
  have H1 := Lib.hid (H0.out.mono hb)
  clear hb H0
  clear d0 d1 h0 h1 fz
  clear t0 t1
  obtain ⟨d0, d1⟩ := twob K1.out
  obtain ⟨h0, h1⟩ := twob K2.out
  have fz := fun q => K2.out.frozen q
  obtain ⟨t0, t1⟩ := twob KT.out
  go_wp2_with fail
  refine (CV.out _).mono ?_
  rintro e wv ⟨rfl, hb⟩
  replace K1 := Lib.hid (K1.out.below hb K1.out.lt)
  replace K2 := Lib.hid (K2.out.below hb K2.out.lt)
  replace B := Lib.hid (B.out.trans (hb.mono (by have := B.out.size; have := HG.out; omega)))
  replace KT := Lib.hid (KT.out.below hb KT.out.lt)
  replace H1 := Lib.hid (H1.out.mono hb)
  clear hb
  clear d0 d1 h0 h1 fz
  clear t0 t1
  obtain ⟨d0, d1⟩ := twob K1.out
  obtain ⟨h0, h1⟩ := twob K2.out
  have fz := fun q => K2.out.frozen q
  obtain ⟨t0, t1⟩ := twob KT.out
  go_wp2
  have K9 := Lib.hid (K2.out.set2 (.int .i64 0) (.slice none 0 0))
  have B9 := Lib.hid ((B.out.setCell (p := ⟨G + 1 + 1, 0, none⟩) (by simp; try omega) (.int .i64 0)).setCell (p := ⟨G + 1 + 1, 1, none⟩) (by simp; try omega) (.slice none 0 0))
  generalize hw2 : (wv.setCell ⟨G + 1 + 1, 0, none⟩ (.int .i64 0)).setCell ⟨G + 1 + 1, 1, none⟩ (.slice none 0 0) = w9 at K9 B9 ⊢
  clear hw2
  clear d0 d1 h0 h1 fz
  obtain ⟨d0, d1⟩ := twob K9.out
  refine bodyPost_ret (by simp [results, Try.results26, go_sem, d0, d1]; try rfl) rfl ?_
  exact ⟨rfl, by rw [HG.out]; exact B9.out⟩
set_option maxRecDepth 100000 in
set_option maxHeartbeats 4000000 in
theorem spend_none (len : Int) (a : Option Addr) (c : Nat) (l : List Rw) (lo hi : Int) (w : World) (hp : RwA w a l) (ok : OkP len l) (p1 : perB lo hi = true) (h : lo / len = hi / len) (hl : leftX (coinL l (lo / len)) = 0) :
    Calls Try.prog 26 #[.agg #[.int .i64 len, .slice a l.length c], per lo hi] w fun e w' => e = .returned (.tuple #[.agg #[.int .i64 0, .slice none 0 0], .int .i64 4]) ∧ Below w.heap.size w w' := by
  have HP := Lib.hid hp
  have C := Lib.hid (fun (X : World) (h : RwA X a l) => validp_yes ok a c X h)
  have CV := Lib.hid (fun X : World => cvalid_any lo hi X)
  obtain ⟨g1, g2, g3⟩ := perB_yes p1
  obtain ⟨⟨l1, l2⟩, hm⟩ := ok.head
  have tl : lo.tdiv len = lo / len := Int.tdiv_eq_ediv_of_nonneg g1
  have th : hi.tdiv len = hi / len := Int.tdiv_eq_ediv_of_nonneg (by omega)
  obtain ⟨u1, u2⟩ := quo_bd (x := lo) (f := len) g1 (by omega)
  obtain ⟨u3, u4⟩ := quo_bd (x := hi) (f := len) (by omega) (by omega)
  have z0 : decide (len = 0) = false := decide_eq_false (by omega)
  have zl : len ≠ 0 := by omega
  have wl : IntKind.i64.wrap (lo / len) = lo / len := by rw [IntKind.wrap_i64]; omega
  have wh : IntKind.i64.wrap (hi / len) = hi / len := by rw [IntKind.wrap_i64]; omega
  have pw : winOk (lo / len) := ⟨u1, by omega⟩
  have h9 := h
  have CO := Lib.hid (fun (X : World) (h : RwA X a l) => coin_any len a c l (lo / len) X h ok)
  have bd := coinL_ok ok (lo / len)
  have cw := coinL_w (l := l) (lo / len)
  have LF := Lib.hid (fun (X : World) => left_any (coinL l (lo / len)) X (coinL_ok ok (lo / len)).1 (coinL_ok ok (lo / len)).2.1 (coinL_ok ok (lo / len)).2.2)
  obtain ⟨N, hN⟩ : ∃ N, l.length = N := ⟨_, rfl⟩
  simp only [hN] at C CO
  rw [hN]
  obtain ⟨x, hx⟩ : ∃ x, coinL l (lo / len) = x := ⟨_, rfl⟩
  rw [hx] at CO bd cw LF hl
  obtain ⟨r, hr⟩ : ∃ r, leftX x = r := ⟨_, rfl⟩
  rw [hr] at LF hl
  obtain ⟨x1, x2, x3, x4⟩ := x
  simp only at bd cw
  obtain ⟨vi, hvi⟩ : ∃ x, hi / len = x := ⟨_, rfl⟩
  rw [hvi] at th wh h
  rw [← cw] at tl wl h CO
  rw [p1] at CV
  have t9 : (x1 != vi) = false := by rw [h]; exact bne_self_eq_false' _
  simp only [encR] at CO LF
  have t8 : (r == 0) = true := beq_iff_eq.2 hl
  clear hp ok p1 hN u1 u2 u3 u4 g1 g2 g3 l1 l2 hm pw h h9 hvi hx cw hr hl
  go_enter Try.func26, Try.ntmps26
  obtain ⟨G, hG⟩ : ∃ G, w.heap.size = G := ⟨_, rfl⟩
  have K1 := Lib.hid (show Blk (((w.alloc (.cells #[.int .i64 len, .slice a N c] 45)).alloc (.cells #[.int .i64 lo, .int .i64 hi] 26)).alloc (.cells #[.int .i64 0, .slice none 0 0] 45)) G 45 #[.int .i64 len, .slice a N c] from ((Blk.new' w _ _ _ hG rfl).alloc _).alloc _)
  have KT := Lib.hid (show Blk (((w.alloc (.cells #[.int .i64 len, .slice a N c] 45)).alloc (.cells #[.int .i64 lo, .int .i64 hi] 26)).alloc (.cells #[.int .i64 0, .slice none 0 0] 45)) (G + 1) 26 #[.int .i64 lo, .int .i64 hi] from (Blk.new' _ _ _ _ (by rw [World.size_alloc, hG]) rfl).alloc _)
  have K2 := Lib.hid (show Blk (((w.alloc (.cells #[.int .i64 len, .slice a N c] 45)).alloc (.cells #[.int .i64 lo, .int .i64 hi] 26)).alloc (.cells #[.int .i64 0, .slice none 0 0] 45)) (G + 1 + 1) 45 #[.int .i64 0, .slice none 0 0] from Blk.new' _ _ _ _ (by rw [World.size_alloc, World.size_alloc, hG]) rfl)
  have B := Lib.hid (show Below G w (((w.alloc (.cells #[.int .i64 len, .slice a N c] 45)).alloc (.cells #[.int .i64 lo, .int .i64 hi] 26)).alloc (.cells #[.int .i64 0, .slice none 0 0] 45)) by rw [← hG]; (repeat' (first | (with_reducible exact Below.refl _ _) | (with_reducible assumption) | (with_reducible refine Below.alloc ?_ ?_ _) | (with_reducible refine Below.drew ?_) | (with_reducible refine below_dn ?_) | (with_reducible refine Below.setCell ?_ ?_ _) | (with_reducible exact Nat.le_refl _) | omega | (simp only [World.size_alloc, World.size_setCell, World.size_drew]; omega) | (simp; omega) | (simp; done))))
  have HG := Lib.hid hG
  have H0 := Lib.hid (HP.out.mono (show Below w.heap.size w (((w.alloc (.cells #[.int .i64 len, .slice a N c] 45)).alloc (.cells #[.int .i64 lo, .int .i64 hi] 26)).alloc (.cells #[.int .i64 0, .slice none 0 0] 45)) by (repeat' (first | (with_reducible exact Below.refl _ _) | (with_reducible assumption) | (with_reducible refine Below.alloc ?_ ?_ _) | (with_reducible refine Below.drew ?_) | (with_reducible refine below_dn ?_) | (with_reducible refine Below.setCell ?_ ?_ _) | (with_reducible exact Nat.le_refl _) | omega | (simp only [World.size_alloc, World.size_setCell, World.size_drew]; omega) | (simp; omega) | (simp; done)))))
  go_upto_region 1 with (fail)
  try rw [hG]
  generalize hw0 : (((w.alloc (.cells #[.int .i64 len, .slice a N c] 45)).alloc (.cells #[.int .i64 lo, .int .i64 hi] 26)).alloc (.cells #[.int .i64 0, .slice none 0 0] 45)) = w0 at K1 K2 KT B H0 ⊢
  clear hw0 hG
  obtain ⟨d0, d1⟩ := twob K1.out
  obtain ⟨h0, h1⟩ := twob K2.out
  have fz := fun q => K2.out.frozen q
  obtain ⟨t0, t1⟩ := twob KT.out
  go_wp2_with fail
  refine (C.out _ H0.out).mono ?_
  rintro e w1 ⟨rfl, hb⟩
  replace K1 := Lib.hid (K1.out.below hb K1.out.lt)
  replace K2 := Lib.hid (K2.out.below hb K2.out.lt)
  replace B := Lib.hid (B.out.trans (hb.mono (by have := B.out.size; have := HG.out; omega)))
  replace KT := Lib.hid (KT.out.below hb KT.out.lt)
  have H1 := Lib.hid (H0.out.mono hb)
  clear hb H0
  clear d0 d1 h0 h1 fz
  clear t0 t1
  obtain ⟨d0, d1⟩ := twob K1.out
  obtain ⟨h0, h1⟩ := twob K2.out
  have fz := fun q => K2.out.frozen q
  obtain ⟨t0, t1⟩ := twob KT.out
  go_wp2_with fail
  refine (CV.out _).mono ?_
  rintro e wv ⟨rfl, hb⟩
  replace K1 := Lib.hid (K1.out.below hb K1.out.lt)
  replace K2 := Lib.hid (K2.out.below hb K2.out.lt)
  replace B := Lib.hid (B.out.trans (hb.mono (by have := B.out.size; have := HG.out; omega)))
  replace KT := Lib.hid (KT.out.below hb KT.out.lt)
  replace H1 := Lib.hid (H1.out.mono hb)
  clear hb
  clear d0 d1 h0 h1 fz
  clear t0 t1
  obtain ⟨d0, d1⟩ := twob K1.out
  obtain ⟨h0, h1⟩ := twob K2.out
  have fz := fun q => K2.out.frozen q
  obtain ⟨t0, t1⟩ := twob KT.out
  go_wp2_with fail
  refine (CO.out _ H1.out).mono ?_
  rintro e w2 ⟨rfl, hb⟩
  replace K1 := Lib.hid (K1.out.below hb K1.out.lt)
  replace K2 := Lib.hid (K2.out.below hb K2.out.lt)
  replace B := Lib.hid (B.out.trans (hb.mono (by have := B.out.size; have := HG.out; omega)))
  have KL := Lib.hid K2.out.lt
  replace H1 := Lib.hid (H1.out.mono hb)
  clear hb
  clear d0 d1 h0 h1 fz
  obtain ⟨g, hg⟩ : ∃ g, w2.heap.size = g := ⟨_, rfl⟩
  have KC := Lib.hid (show Blk (w2.alloc (.cells #[.int .i64 x1, .int .i64 x2, .int .i64 x3, .int .i64 x4] 89)) g 89 #[.int .i64 x1, .int .i64 x2, .int .i64 x3, .int .i64 x4] from Blk.new' w2 _ _ _ hg rfl)
  replace K1 := Lib.hid (K1.out.alloc (.cells #[.int .i64 x1, .int .i64 x2, .int .i64 x3, .int .i64 x4] 89))
  replace K2 := Lib.hid (K2.out.alloc (.cells #[.int .i64 x1, .int .i64 x2, .int .i64 x3, .int .i64 x4] 89))
  have GL := Lib.hid (show G + 1 + 1 < g by rw [← hg]; have := K2.out.lt; simp at this; rcases Nat.lt_or_ge (G + 1 + 1) w2.heap.size with q | q; exact q; exact absurd q (by have := KL.out; omega))
  replace B := Lib.hid (B.out.alloc (by have := B.out.size; have := HG.out; omega) (.cells #[.int .i64 x1, .int .i64 x2, .int .i64 x3, .int .i64 x4] 89))
  replace H1 := Lib.hid (H1.out.mono ((Below.refl _ w2).alloc (Nat.le_refl _) (.cells #[.int .i64 x1, .int .i64 x2, .int .i64 x3, .int .i64 x4] 89)))
  go_upto_region 7 with (fail)
  try rw [hg]
  generalize hw3 : w2.alloc (.cells #[.int .i64 x1, .int .i64 x2, .int .i64 x3, .int .i64 x4] 89) = w3 at KC K1 K2 B H1 ⊢
  clear hw3 hg
  obtain ⟨m0, m1, m2, m3⟩ := four KC.out
  obtain ⟨d0, d1⟩ := twob K1.out
  obtain ⟨h0, h1⟩ := twob K2.out
  have fz := fun q => K2.out.frozen q
  go_wp2_with fail
  refine (LF.out _).mono ?_
  rintro e w4 ⟨rfl, hb⟩
  replace K1 := Lib.hid (K1.out.below hb K1.out.lt)
  replace K2 := Lib.hid (K2.out.below hb K2.out.lt)
  replace B := Lib.hid (B.out.trans (hb.mono (by have := B.out.size; have := HG.out; omega)))
  replace KC := Lib.hid (KC.out.below hb KC.out.lt)
  replace H1 := Lib.hid (H1.out.mono hb)
  clear hb m0 m1 m2 m3
  clear d0 d1 h0 h1 fz
  obtain ⟨m0, m1, m2, m3⟩ := four KC.out
  obtain ⟨d0, d1⟩ := twob K1.out
  obtain ⟨h0, h1⟩ := twob K2.out
  have fz := fun q => K2.out.frozen q
  clear m0 m1 m2 m3
  go_wp2
  have K9 := Lib.hid (K2.out.set2 (.int .i64 0) (.slice none 0 0))
  have B9 := Lib.hid ((B.out.setCell (p := ⟨G + 1 + 1, 0, none⟩) (by simp; try omega) (.int .i64 0)).setCell (p := ⟨G + 1 + 1, 1, none⟩) (by simp; try omega) (.slice none 0 0))
  generalize hw2 : (w4.setCell ⟨G + 1 + 1, 0, none⟩ (.int .i64 0)).setCell ⟨G + 1 + 1, 1, none⟩ (.slice none 0 0) = w9 at K9 B9 ⊢
  clear hw2
  clear d0 d1 h0 h1 fz
  obtain ⟨d0, d1⟩ := twob K9.out
  refine bodyPost_ret (by simp [results, Try.results26, go_sem, d0, d1]; try rfl) rfl ?_
  exact ⟨rfl, by rw [HG.out]; exact B9.out⟩
set_option maxRecDepth 100000 in
set_option maxHeartbeats 4000000 in
theorem spend_ok (len : Int) (a : Option Addr) (c : Nat) (l : List Rw) (lo hi : Int) (w : World) (hp : RwA w a l) (ok : OkP len l) (p1 : perB lo hi = true) (h : lo / len = hi / len) (hl : leftX (coinL l (lo / len)) ≠ 0) :
    Calls Try.prog 26 #[.agg #[.int .i64 len, .slice a l.length c], per lo hi] w fun e w' => (∃ a' c', e = .returned (.tuple #[.agg #[.int .i64 len, .slice a' (spendL l (lo / len)).length c'], .int .i64 0]) ∧ RwA w' a' (spendL l (lo / len)) ∧ ∀ p, a' = some p → w.heap.size ≤ p.block) ∧ Below w.heap.size w w' := by
  have HP := Lib.hid hp
  have C := Lib.hid (fun (X : World) (h : RwA X a l) => validp_yes ok a c X h)
  have CV := Lib.hid (fun X : World => cvalid_any lo hi X)
  obtain ⟨g1, g2, g3⟩ := perB_yes p1
  obtain ⟨⟨l1, l2⟩, hm⟩ := ok.head
  have tl : lo.tdiv len = lo / len := Int.tdiv_eq_ediv_of_nonneg g1
  have th : hi.tdiv len = hi / len := Int.tdiv_eq_ediv_of_nonneg (by omega)
  obtain ⟨u1, u2⟩ := quo_bd (x := lo) (f := len) g1 (by omega)
  obtain ⟨u3, u4⟩ := quo_bd (x := hi) (f := len) (by omega) (by omega)
  have z0 : decide (len = 0) = false := decide_eq_false (by omega)
  have zl : len ≠ 0 := by omega
  have wl : IntKind.i64.wrap (lo / len) = lo / len := by rw [IntKind.wrap_i64]; omega
  have wh : IntKind.i64.wrap (hi / len) = hi / len := by rw [IntKind.wrap_i64]; omega
  have pw : winOk (lo / len) := ⟨u1, by omega⟩
  have h9 := h
  have CO := Lib.hid (fun (X : World) (h : RwA X a l) => coin_any len a c l (lo / len) X h ok)
  have bd := coinL_ok ok (lo / len)
  have cw := coinL_w (l := l) (lo / len)
  have LF := Lib.hid (fun (X : World) => left_any (coinL l (lo / len)) X (coinL_ok ok (lo / len)).1 (coinL_ok ok (lo / len)).2.1 (coinL_ok ok (lo / len)).2.2)
  have hw : hasC (cW (lo / len)) l = true := by
    cases hh : hasC (cW (lo / len)) l
    · exfalso
      have e : coinL l (lo / len) = ((lo / len), 0, 0, 0) := by unfold coinL; rw [hh]; rfl
      rw [e] at hl
      exact hl rfl
    · rfl
  have WI := Lib.hid (fun (X : World) (h : RwA X a l) => with_ok len a c l ((coinL l (lo / len)).1, (coinL l (lo / len)).2.1, (coinL l (lo / len)).2.2.1 + 1, (coinL l (lo / len)).2.2.2) X h ok.ord (by omega) (Or.inl (by rw [coinL_w]; exact hw)))
  have HRL := Lib.hid (show withL l ((coinL l (lo / len)).1, (coinL l (lo / len)).2.1, (coinL l (lo / len)).2.2.1 + 1, (coinL l (lo / len)).2.2.2) = spendL l (lo / len) from rfl)
  rw [HRL.out] at WI
  obtain ⟨N, hN⟩ : ∃ N, l.length = N := ⟨_, rfl⟩
  simp only [hN] at C CO WI
  rw [hN]
  obtain ⟨x, hx⟩ : ∃ x, coinL l (lo / len) = x := ⟨_, rfl⟩
  rw [hx] at CO bd cw LF hl
  obtain ⟨r, hr⟩ : ∃ r, leftX x = r := ⟨_, rfl⟩
  rw [hr] at LF hl
  obtain ⟨x1, x2, x3, x4⟩ := x
  simp only at bd cw
  obtain ⟨vi, hvi⟩ : ∃ x, hi / len = x := ⟨_, rfl⟩
  rw [hvi] at th wh h
  rw [← cw] at tl wl h CO
  rw [p1] at CV
  have t9 : (x1 != vi) = false := by rw [h]; exact bne_self_eq_false' _
  obtain ⟨R, hR⟩ : ∃ R, spendL l (lo / len) = R := ⟨_, rfl⟩
  rw [hR] at WI ⊢
  rw [hx] at WI
  simp only [encR] at CO LF WI
  have t8 : (r == 0) = false := beq_eq_false_iff_ne.2 hl
  obtain ⟨S, hS⟩ : ∃ S, x3 + 1 = S := ⟨_, rfl⟩
  have wS : IntKind.i64.wrap S = S := by rw [IntKind.wrap_i64]; omega
  rw [hS] at WI
  clear hp ok p1 hN u1 u2 u3 u4 g1 g2 g3 l1 l2 hm pw h h9 hvi hx cw hr hl hw hR HRL
  go_enter Try.func26, Try.ntmps26
  obtain ⟨G, hG⟩ : ∃ G, w.heap.size = G := ⟨_, rfl⟩
  have K1 := Lib.hid (show Blk (((w.alloc (.cells #[.int .i64 len, .slice a N c] 45)).alloc (.cells #[.int .i64 lo, .int .i64 hi] 26)).alloc (.cells #[.int .i64 0, .slice none 0 0] 45)) G 45 #[.int .i64 len, .slice a N c] from ((Blk.new' w _ _ _ hG rfl).alloc _).alloc _)
  have KT := Lib.hid (show Blk (((w.alloc (.cells #[.int .i64 len, .slice a N c] 45)).alloc (.cells #[.int .i64 lo, .int .i64 hi] 26)).alloc (.cells #[.int .i64 0, .slice none 0 0] 45)) (G + 1) 26 #[.int .i64 lo, .int .i64 hi] from (Blk.new' _ _ _ _ (by rw [World.size_alloc, hG]) rfl).alloc _)
  have K2 := Lib.hid (show Blk (((w.alloc (.cells #[.int .i64 len, .slice a N c] 45)).alloc (.cells #[.int .i64 lo, .int .i64 hi] 26)).alloc (.cells #[.int .i64 0, .slice none 0 0] 45)) (G + 1 + 1) 45 #[.int .i64 0, .slice none 0 0] from Blk.new' _ _ _ _ (by rw [World.size_alloc, World.size_alloc, hG]) rfl)
  have B := Lib.hid (show Below G w (((w.alloc (.cells #[.int .i64 len, .slice a N c] 45)).alloc (.cells #[.int .i64 lo, .int .i64 hi] 26)).alloc (.cells #[.int .i64 0, .slice none 0 0] 45)) by rw [← hG]; (repeat' (first | (with_reducible exact Below.refl _ _) | (with_reducible assumption) | (with_reducible refine Below.alloc ?_ ?_ _) | (with_reducible refine Below.drew ?_) | (with_reducible refine below_dn ?_) | (with_reducible refine Below.setCell ?_ ?_ _) | (with_reducible exact Nat.le_refl _) | omega | (simp only [World.size_alloc, World.size_setCell, World.size_drew]; omega) | (simp; omega) | (simp; done))))
  have HG := Lib.hid hG
  have H0 := Lib.hid (HP.out.mono (show Below w.heap.size w (((w.alloc (.cells #[.int .i64 len, .slice a N c] 45)).alloc (.cells #[.int .i64 lo, .int .i64 hi] 26)).alloc (.cells #[.int .i64 0, .slice none 0 0] 45)) by (repeat' (first | (with_reducible exact Below.refl _ _) | (with_reducible assumption) | (with_reducible refine Below.alloc ?_ ?_ _) | (with_reducible refine Below.drew ?_) | (with_reducible refine below_dn ?_) | (with_reducible refine Below.setCell ?_ ?_ _) | (with_reducible exact Nat.le_refl _) | omega | (simp only [World.size_alloc, World.size_setCell, World.size_drew]; omega) | (simp; omega) | (simp; done)))))
  go_upto_region 1 with (fail)
  try rw [hG]
  generalize hw0 : (((w.alloc (.cells #[.int .i64 len, .slice a N c] 45)).alloc (.cells #[.int .i64 lo, .int .i64 hi] 26)).alloc (.cells #[.int .i64 0, .slice none 0 0] 45)) = w0 at K1 K2 KT B H0 ⊢
  clear hw0 hG
  obtain ⟨d0, d1⟩ := twob K1.out
  obtain ⟨h0, h1⟩ := twob K2.out
  have fz := fun q => K2.out.frozen q
  obtain ⟨t0, t1⟩ := twob KT.out
  go_wp2_with fail
  refine (C.out _ H0.out).mono ?_
  rintro e w1 ⟨rfl, hb⟩
  replace K1 := Lib.hid (K1.out.below hb K1.out.lt)
  replace K2 := Lib.hid (K2.out.below hb K2.out.lt)
  replace B := Lib.hid (B.out.trans (hb.mono (by have := B.out.size; have := HG.out; omega)))
  replace KT := Lib.hid (KT.out.below hb KT.out.lt)
  have H1 := Lib.hid (H0.out.mono hb)
  clear hb H0
  clear d0 d1 h0 h1 fz
  clear t0 t1
  obtain ⟨d0, d1⟩ := twob K1.out
  obtain ⟨h0, h1⟩ := twob K2.out
  have fz := fun q => K2.out.frozen q
  obtain ⟨t0, t1⟩ := twob KT.out
  go_wp2_with fail
  refine (CV.out _).mono ?_
  rintro e wv ⟨rfl, hb⟩
  replace K1 := Lib.hid (K1.out.below hb K1.out.lt)
  replace K2 := Lib.hid (K2.out.below hb K2.out.lt)
  replace B := Lib.hid (B.out.trans (hb.mono (by have := B.out.size; have := HG.out; omega)))
  replace KT := Lib.hid (KT.out.below hb KT.out.lt)
  replace H1 := Lib.hid (H1.out.mono hb)
  clear hb
  clear d0 d1 h0 h1 fz
  clear t0 t1
  obtain ⟨d0, d1⟩ := twob K1.out
  obtain ⟨h0, h1⟩ := twob K2.out
  have fz := fun q => K2.out.frozen q
  obtain ⟨t0, t1⟩ := twob KT.out
  go_wp2_with fail
  refine (CO.out _ H1.out).mono ?_
  rintro e w2 ⟨rfl, hb⟩
  replace K1 := Lib.hid (K1.out.below hb K1.out.lt)
  replace K2 := Lib.hid (K2.out.below hb K2.out.lt)
  replace B := Lib.hid (B.out.trans (hb.mono (by have := B.out.size; have := HG.out; omega)))
  have KL := Lib.hid K2.out.lt
  replace H1 := Lib.hid (H1.out.mono hb)
  clear hb
  clear d0 d1 h0 h1 fz
  obtain ⟨g, hg⟩ : ∃ g, w2.heap.size = g := ⟨_, rfl⟩
  have KC := Lib.hid (show Blk (w2.alloc (.cells #[.int .i64 x1, .int .i64 x2, .int .i64 x3, .int .i64 x4] 89)) g 89 #[.int .i64 x1, .int .i64 x2, .int .i64 x3, .int .i64 x4] from Blk.new' w2 _ _ _ hg rfl)
  replace K1 := Lib.hid (K1.out.alloc (.cells #[.int .i64 x1, .int .i64 x2, .int .i64 x3, .int .i64 x4] 89))
  replace K2 := Lib.hid (K2.out.alloc (.cells #[.int .i64 x1, .int .i64 x2, .int .i64 x3, .int .i64 x4] 89))
  have GL := Lib.hid (show G + 1 + 1 < g by rw [← hg]; have := K2.out.lt; simp at this; rcases Nat.lt_or_ge (G + 1 + 1) w2.heap.size with q | q; exact q; exact absurd q (by have := KL.out; omega))
  replace B := Lib.hid (B.out.alloc (by have := B.out.size; have := HG.out; omega) (.cells #[.int .i64 x1, .int .i64 x2, .int .i64 x3, .int .i64 x4] 89))
  replace H1 := Lib.hid (H1.out.mono ((Below.refl _ w2).alloc (Nat.le_refl _) (.cells #[.int .i64 x1, .int .i64 x2, .int .i64 x3, .int .i64 x4] 89)))
  go_upto_region 7 with (fail)
  try rw [hg]
  generalize hw3 : w2.alloc (.cells #[.int .i64 x1, .int .i64 x2, .int .i64 x3, .int .i64 x4] 89) = w3 at KC K1 K2 B H1 ⊢
  clear hw3 hg
  obtain ⟨m0, m1, m2, m3⟩ := four KC.out
  obtain ⟨d0, d1⟩ := twob K1.out
  obtain ⟨h0, h1⟩ := twob K2.out
  have fz := fun q => K2.out.frozen q
  go_wp2_with fail
  refine (LF.out _).mono ?_
  rintro e w4 ⟨rfl, hb⟩
  replace K1 := Lib.hid (K1.out.below hb K1.out.lt)
  replace K2 := Lib.hid (K2.out.below hb K2.out.lt)
  replace B := Lib.hid (B.out.trans (hb.mono (by have := B.out.size; have := HG.out; omega)))
  replace KC := Lib.hid (KC.out.below hb KC.out.lt)
  replace H1 := Lib.hid (H1.out.mono hb)
  clear hb m0 m1 m2 m3
  clear d0 d1 h0 h1 fz
  obtain ⟨m0, m1, m2, m3⟩ := four KC.out
  obtain ⟨d0, d1⟩ := twob K1.out
  obtain ⟨h0, h1⟩ := twob K2.out
  have fz := fun q => K2.out.frozen q
  have fq := KC.out.frozen
  have KC2 := Lib.hid (show Blk (w4.setCell ⟨g, 2, none⟩ (.int .i64 S)) g 89 #[.int .i64 x1, .int .i64 x2, .int .i64 S, .int .i64 x4] from KC.out.set_ 2 _)
  have K1n := Lib.hid (K1.out.far (p := ⟨g, 2, none⟩) (show G ≠ g by have := GL.out; omega) (.int .i64 S))
  have K2n := Lib.hid (K2.out.far (p := ⟨g, 2, none⟩) (show G + 1 + 1 ≠ g by have := GL.out; omega) (.int .i64 S))
  have Bn := Lib.hid (B.out.setCell (p := ⟨g, 2, none⟩) (show G ≤ g by have := GL.out; omega) (.int .i64 S))
  have Hn := Lib.hid (show RwA (w4.setCell ⟨g, 2, none⟩ (.int .i64 S)) a l from HP.out.mono (by rw [HG.out]; exact Bn.out))
  go_upto_region 10 with (fail)
  try rw [hS, wS]
  generalize hw4 : w4.setCell ⟨g, 2, none⟩ (.int .i64 S) = w6 at KC2 K1n K2n Bn Hn ⊢
  clear hw4 m0 m1 m2 m3 fq H1 K1 K2 B KC
  clear d0 d1 h0 h1 fz
  have K1 := K1n; have K2 := K2n; have B := Bn; have H1 := Hn
  clear K1n K2n Bn Hn
  obtain ⟨m0, m1, m2, m3⟩ := four KC2.out
  obtain ⟨d0, d1⟩ := twob K1.out
  obtain ⟨h0, h1⟩ := twob K2.out
  have fz := fun q => K2.out.frozen q
  have HLG := Lib.hid (show G + 1 + 1 < w6.heap.size from K2.out.lt)
  have HLW := Lib.hid (show w.heap.size ≤ w6.heap.size from B.out.size)
  go_wp2_with fail
  refine (WI.out _ H1.out).mono ?_
  rintro e w5 ⟨⟨a5, c5, rfl, hr5, hf5⟩, hb⟩
  have F5 := Lib.hid (show ∀ p, a5 = some p → w.heap.size ≤ p.block from fun p hp => by have h9 := hf5 p hp; have := HLW.out; omega)
  have R5 := Lib.hid (RowsA.far (RowsA.far hr5 (p := ⟨G + 1 + 1, 0, none⟩) (fun p hp => by have h9 := hf5 p hp; have := HLG.out; show p.block ≠ G + 1 + 1; omega) (.int .i64 len)) (p := ⟨G + 1 + 1, 1, none⟩) (fun p hp => by have h9 := hf5 p hp; have := HLG.out; show p.block ≠ G + 1 + 1; omega) (.slice a5 R.length c5))
  replace K1 := Lib.hid (K1.out.below hb K1.out.lt)
  replace K2 := Lib.hid (K2.out.below hb K2.out.lt)
  replace B := Lib.hid (B.out.trans (hb.mono (by have := B.out.size; have := HG.out; omega)))
  clear d0 d1 h0 h1 fz
  clear m0 m1 m2 m3
  obtain ⟨d0, d1⟩ := twob K1.out
  obtain ⟨h0, h1⟩ := twob K2.out
  have fz := fun q => K2.out.frozen q
  go_wp2
  have K9 := Lib.hid (K2.out.set2 (.int .i64 len) (.slice a5 R.length c5))
  have B9 := Lib.hid ((B.out.setCell (p := ⟨G + 1 + 1, 0, none⟩) (by simp; try omega) (.int .i64 len)).setCell (p := ⟨G + 1 + 1, 1, none⟩) (by simp; try omega) (.slice a5 R.length c5))
  generalize hw2 : (w5.setCell ⟨G + 1 + 1, 0, none⟩ (.int .i64 len)).setCell ⟨G + 1 + 1, 1, none⟩ (.slice a5 R.length c5) = w9 at K9 B9 R5 ⊢
  clear hw2
  clear d0 d1 h0 h1 fz
  obtain ⟨d0, d1⟩ := twob K9.out
  refine bodyPost_ret (by simp [results, Try.results26, go_sem, d0, d1]; try rfl) rfl ?_
  exact ⟨⟨a5, c5, rfl, R5.out, F5.out⟩, by rw [HG.out]; exact B9.out⟩
end Go.Proofs.Ytcgdhankllphgaa
