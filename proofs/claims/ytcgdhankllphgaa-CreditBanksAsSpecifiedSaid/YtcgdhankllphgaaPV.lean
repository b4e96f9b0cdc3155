/- Contracts: the reference's put. -/
import Derived.Test.YtcgdhankllphgaaPU
import Derived.Test.YtcgdhankllphgaaRT
namespace Go.Proofs.Ytcgdhankllphgaa
set_option linter.unusedVariables false
set_option linter.unusedSimpArgs false
open Go.RowKit
set_option maxRecDepth 100000 in
set_option maxHeartbeats 4000000 in
theorem put_any (cap len : Int) (a : Option Addr) (c : Nat) (l : List Rw) (x : Rw) (w : World) (hp : RwA w a l) (ord : OrdR l) (hm : l.length ≤ 10000) :
    Calls Try.prog 57 #[.agg #[.int .i64 cap, .int .i64 len, .slice a l.length c], .agg (encR x).toArray] w fun e w' => (∃ a' c', e = .returned (.agg #[.int .i64 cap, .int .i64 len, .slice a' (putL l (posC (cR x.1 x.2.1) l) (hasC (cR x.1 x.2.1) l) x).length c']) ∧ RwA w' a' (putL l (posC (cR x.1 x.2.1) l) (hasC (cR x.1 x.2.1) l) x) ∧ ∀ p, a' = some p → w.heap.size ≤ p.block) ∧ Below w.heap.size w w' := by
  have HP := Lib.hid hp
  obtain ⟨x1, x2, x3, x4⟩ := x
  simp only at *
  have hle := posC_le (cR x1 x2) l
  have PB := Lib.hid (show ∀ j, j < posC (cR x1 x2) l → (l.getD j r0).1 < x1 ∨ (l.getD j r0).1 = x1 ∧ (l.getD j r0).2.1 < x2 from fun j hj => cR_neg.1 (posC_below _ l j hj))
  have PA := Lib.hid (show posC (cR x1 x2) l < l.length → ¬ ((l.getD (posC (cR x1 x2) l) r0).1 < x1 ∨ (l.getD (posC (cR x1 x2) l) r0).1 = x1 ∧ (l.getD (posC (cR x1 x2) l) r0).2.1 < x2) from fun hl q => posC_at _ l hl (cR_neg.2 q))
  have PG := Lib.hid (show ∀ j, posC (cR x1 x2) l < j → j < l.length → x1 < (l.getD j r0).1 ∨ x1 = (l.getD j r0).1 ∧ x2 < (l.getD j r0).2.1 from fun j hj hl => by
    have h1 := posC_at (cR x1 x2) l (by omega)
    rw [cR_neg] at h1
    have h2 := ord.lt hj hl
    unfold ltR at h2
    omega)
  have HH := Lib.hid (show posC (cR x1 x2) l < l.length → (l.getD (posC (cR x1 x2) l) r0).1 = x1 ∧ (l.getD (posC (cR x1 x2) l) r0).2.1 = x2 → hasC (cR x1 x2) l = true from fun h1 h2 => (hasC_iff _ _).2 ⟨h1, cR_zero.2 h2⟩)
  have HN := Lib.hid (show x1 < (l.getD (posC (cR x1 x2) l) r0).1 ∨ (x1 = (l.getD (posC (cR x1 x2) l) r0).1 ∧ x2 < (l.getD (posC (cR x1 x2) l) r0).2.1) → hasC (cR x1 x2) l = false from fun q => by
    cases e : hasC (cR x1 x2) l
    · rfl
    · have := cR_zero.1 ((hasC_iff _ _).1 e).2; omega)
  have HL := Lib.hid (show posC (cR x1 x2) l = l.length → hasC (cR x1 x2) l = false from fun q => by
    cases e : hasC (cR x1 x2) l
    · rfl
    · have := ((hasC_iff _ _).1 e).1; omega)
  obtain ⟨p, hp9⟩ : ∃ p, posC (cR x1 x2) l = p := ⟨_, rfl⟩
  obtain ⟨h, hh9⟩ : ∃ h, hasC (cR x1 x2) l = h := ⟨_, rfl⟩
  rw [hp9] at hle PB PA PG HH HN HL
  rw [hh9] at HH HN HL
  rw [hp9, hh9]
  obtain ⟨N, hN⟩ : ∃ N, l.length = N := ⟨_, rfl⟩
  have HE := Lib.hid hN
  simp only [encR]
  rw [hN] at hm hle ⊢
  have HEND := Lib.hid (show p < N → putK l p h (x1, x2, x3, x4) N = putL l p h (x1, x2, x3, x4) from fun q => by rw [← HE.out]; exact putK_end l p h _ (by rw [HE.out]; exact q))
  have HLST := Lib.hid (show p = N → putK l p h (x1, x2, x3, x4) N ++ [(x1, x2, x3, x4)] = putL l p h (x1, x2, x3, x4) from fun q => by rw [q, ← HE.out]; exact putK_last l h _ (HL.out (by rw [HE.out]; exact q)))
  clear hp ord hN hp9 hh9
  go_enter Try.func57, Try.ntmps57
  obtain ⟨G, hG⟩ : ∃ G, w.heap.size = G := ⟨_, rfl⟩
  have HG := Lib.hid hG
  have K1 := Lib.hid (show Blk (((w.alloc (.cells #[.int .i64 cap, .int .i64 len, .slice a N c] 24)).alloc (.cells #[.int .i64 x1, .int .i64 x2, .int .i64 x3, .int .i64 x4] 72)).alloc (.cells #[.int .i64 0, .int .i64 0, .slice none 0 0] 24)) G 24 #[.int .i64 cap, .int .i64 len, .slice a N c] from ((Blk.new' w _ _ _ hG rfl).alloc _).alloc _)
  have K2 := Lib.hid (show Blk (((w.alloc (.cells #[.int .i64 cap, .int .i64 len, .slice a N c] 24)).alloc (.cells #[.int .i64 x1, .int .i64 x2, .int .i64 x3, .int .i64 x4] 72)).alloc (.cells #[.int .i64 0, .int .i64 0, .slice none 0 0] 24)) (G + 1) 72 #[.int .i64 x1, .int .i64 x2, .int .i64 x3, .int .i64 x4] from (Blk.new' _ _ _ _ (by rw [World.size_alloc, hG]) rfl).alloc _)
  have K3 := Lib.hid (show Blk (((w.alloc (.cells #[.int .i64 cap, .int .i64 len, .slice a N c] 24)).alloc (.cells #[.int .i64 x1, .int .i64 x2, .int .i64 x3, .int .i64 x4] 72)).alloc (.cells #[.int .i64 0, .int .i64 0, .slice none 0 0] 24)) (G + 1 + 1) 24 #[.int .i64 0, .int .i64 0, .slice none 0 0] from Blk.new' _ _ _ _ (by rw [World.size_alloc, World.size_alloc, hG]) rfl)
  have B := Lib.hid (show Below w.heap.size w (((w.alloc (.cells #[.int .i64 cap, .int .i64 len, .slice a N c] 24)).alloc (.cells #[.int .i64 x1, .int .i64 x2, .int .i64 x3, .int .i64 x4] 72)).alloc (.cells #[.int .i64 0, .int .i64 0, .slice none 0 0] 24)) by (repeat' (first | (with_reducible exact Below.refl _ _) | (with_reducible assumption) | (with_reducible refine Below.alloc ?_ ?_ _) | (with_reducible refine Below.drew ?_) | (with_reducible refine below_dn ?_) | (with_reducible refine Below.setCell ?_ ?_ _) | (with_reducible exact Nat.le_refl _) | omega | (simp only [World.size_alloc, World.size_setCell, World.size_drew]; omega) | (simp; omega) | (simp; done))))
  go_upto_region 1 with (fail)
  try rw [hG]
  generalize hw0 : (((w.alloc (.cells #[.int .i64 cap, .int .i64 len, .slice a N c] 24)).alloc (.cells #[.int .i64 x1, .int .i64 x2, .int .i64 x3, .int .i64 x4] 72)).alloc (.cells #[.int .i64 0, .int .i64 0, .slice none 0 0] 24)) = w0 at K1 K2 K3 B ⊢
  clear hw0 hG
  obtain ⟨Z, hZ⟩ : ∃ Z, w0.heap.size = Z := ⟨_, rfl⟩
  have hGZ : G + 1 + 1 < Z := by have := K3.out.lt; omega
  have HZ := Lib.hid (show G + 1 + 1 < Z from hGZ)
  have hZ0 : Z ≤ w0.heap.size := by omega
  clear hZ
  go_wp2
  go_loopw [5, 6, 7, 8] (fun u5 u6 u7 _ wr => ∃ k : Nat, k ≤ N ∧ u7 = .int .i64 k ∧ u6 = .bool (decide (p < k)) ∧ Hid (Ro.OwnA wr Z u5 (putK l p h (x1, x2, x3, x4) k)) ∧ Z ≤ wr.heap.size ∧ Hid (Blk wr G 24 #[.int .i64 cap, .int .i64 len, .slice a N c]) ∧ Hid (Blk wr (G + 1) 72 #[.int .i64 x1, .int .i64 x2, .int .i64 x3, .int .i64 x4]) ∧ Hid (Blk wr (G + 1 + 1) 24 #[.int .i64 0, .int .i64 0, .slice none 0 0]) ∧ Hid (Below w.heap.size w wr)) (fun _ _ u7 _ _ => (N - intOf u7).toNat)
  case atStart => exact ⟨0, by omega, rfl, by simp, Lib.hid (by rw [putK_zero]; exact OwnR.nil _ _ _ _ _), hZ0, K1, K2, K3, B⟩
  case round =>
    clear K1 K2 K3 B hZ0
    obtain ⟨k, hk, rfl, rfl, ho, hzr, K1, K2, K3, hbe⟩ := hrel
    obtain ⟨d0, d1, d2⟩ := three K1.out
    obtain ⟨m0, m1, m2, m3⟩ := four K2.out
    by_cases hlt : k < N
    · have t0 : decide ((k : Int) < (N : Int)) = true := decide_eq_true (by omega)
      have wk : IntKind.i64.wrap ((k : Int) + 1) = (k : Int) + 1 := by rw [IntKind.wrap_i64]; omega
      obtain ⟨b, off, rfl, q0, q1, q2, q3⟩ := RwA.at_ (HP.out.mono hbe.out) (k := k) (by rw [HE.out]; exact hlt)
      have LN := Lib.hid (show (putK l p h (x1, x2, x3, x4) k).length ≤ 10001 by have := putK_len l p h (x1, x2, x3, x4) k (by rw [HE.out]; exact hk); omega)
      obtain ⟨y, hy⟩ : ∃ y, l.getD k r0 = y := ⟨_, rfl⟩
      have HY := Lib.hid hy
      rw [hy] at q0 q1 q2 q3
      clear hy
      obtain ⟨y1, y2, y3, y4⟩ := y
      simp only at q0 q1 q2 q3
      have k0 : (0 : Int) ≤ (k : Int) := by omega
      have kN : (k : Int) < (N : Int) := by omega
      obtain ⟨gy, hgy⟩ : ∃ g, wr.heap.size = g := ⟨_, rfl⟩
      have KY := Lib.hid (show Blk (wr.alloc (.cells #[.int .i64 y1, .int .i64 y2, .int .i64 y3, .int .i64 y4] 72)) gy 72 #[.int .i64 y1, .int .i64 y2, .int .i64 y3, .int .i64 y4] from Blk.new' wr _ _ _ hgy rfl)
      have O1 := Lib.hid (OwnR.alloc ho.out (.cells #[.int .i64 y1, .int .i64 y2, .int .i64 y3, .int .i64 y4] 72))
      have K1y := Lib.hid (K1.out.alloc (.cells #[.int .i64 y1, .int .i64 y2, .int .i64 y3, .int .i64 y4] 72))
      have K2y := Lib.hid (K2.out.alloc (.cells #[.int .i64 y1, .int .i64 y2, .int .i64 y3, .int .i64 y4] 72))
      have K3y := Lib.hid (K3.out.alloc (.cells #[.int .i64 y1, .int .i64 y2, .int .i64 y3, .int .i64 y4] 72))
      have By := Lib.hid (hbe.out.alloc hbe.out.size (.cells #[.int .i64 y1, .int .i64 y2, .int .i64 y3, .int .i64 y4] 72))
      have zy : Z ≤ (wr.alloc (.cells #[.int .i64 y1, .int .i64 y2, .int .i64 y3, .int .i64 y4] 72)).heap.size := by simp; omega
      have hyy : Z ≤ gy := by omega
      have NE := Lib.hid (show u5.ownBlock ≠ some gy from fun q => by have := (own_lt ho.out gy q).2; omega)
      go_upto_region 7 with (fail)
      try rw [hgy]
      generalize hwy : wr.alloc (.cells #[.int .i64 y1, .int .i64 y2, .int .i64 y3, .int .i64 y4] 72) = wy at KY O1 K1y K2y K3y By zy ⊢
      clear hwy hgy q0 q1 q2 q3 ho hbe K1 K2 K3 d0 d1 d2 m0 m1 m2 m3
      rcases Nat.lt_trichotomy k p with hkp | hkp | hkp
      · have hc := PB.out k hkp
        rw [HY.out] at hc
        simp only at hc
        by_cases q1 : y1 < x1
        · have e9 : decide (p < k) = false := decide_eq_false (by omega)
          have HST := Lib.hid (by have := putK_below l p h (x1, x2, x3, x4) k hkp (by rw [HE.out]; exact hlt); rw [HY.out] at this; exact this)
          have t1 : decide (x1 < y1) = false := by simp; omega
          have t2 : (x1 == y1) = false := by simp; omega
          have t4 : (y1 != x1) = true := by simp; omega
          clear q1 hc
          obtain ⟨m0, m1, m2, m3⟩ := four K2y.out
          obtain ⟨e0, e1, e2, e3⟩ := four KY.out
          obtain ⟨d0, d1, d2⟩ := three K1y.out
          obtain ⟨b1, n1, c1, w1, hr1, ho1, hb1, kk1⟩ := app_oneR wy Z u5 _ y1 y2 y3 y4 O1.out (by first | (have := LN.out; omega) | (have := LN.out; simp; omega)) zy
          have z1 : Z ≤ w1.heap.size := Nat.le_trans zy hb1.size
          have HR1 := Lib.hid hr1
          have K1_1 := Lib.hid (show Blk w1 G 24 _ from (hb1.block G (by omega)).trans K1y.out)
          have K2_1 := Lib.hid (show Blk w1 (G + 1) 72 #[.int .i64 x1, .int .i64 x2, .int .i64 x3, .int .i64 x4] from (hb1.block (G + 1) (by omega)).trans K2y.out)
          have K3_1 := Lib.hid (show Blk w1 (G + 1 + 1) 24 #[.int .i64 0, .int .i64 0, .slice none 0 0] from (hb1.block (G + 1 + 1) (by omega)).trans K3y.out)
          have B_1 := Lib.hid (By.out.trans (hb1.mono (by have := HZ.out; have := HG.out; omega)))
          obtain ⟨p10, p11, p12, p13⟩ := four K2_1.out
          have OF := Lib.hid (show Ro.OwnA w1 Z (.slice b1 n1 c1) (putK l p h (x1, x2, x3, x4) (k + 1)) by rw [HST.out]; exact ho1)
          clear hr1 ho1 hb1 kk1 hyy
          go_wp2_with (first | (at_builtin; refine wpList_app_run rfl _ _ 22 22 rfl _ _ _ w1 rfl rfl HR1.out ?_))
          go_roundw
          case rel => exact ⟨k + 1, by omega, by go_num, by rw [decide_eq_false (by omega)], OF, z1, K1_1, K2_1, K3_1, B_1⟩
          case measure => simp [intOf]; omega
        · have e9 : decide (p < k) = false := decide_eq_false (by omega)
          have HST := Lib.hid (by have := putK_below l p h (x1, x2, x3, x4) k hkp (by rw [HE.out]; exact hlt); rw [HY.out] at this; exact this)
          have q2 : y1 = x1 := by omega
          have t1 : decide (x1 < y1) = false := by simp; omega
          have t2 : (x1 == y1) = true := by simp; omega
          have t3 : decide (x2 ≤ y2) = false := decide_eq_false (by omega)
          have t4 : (y1 != x1) = false := by simp; omega
          have t5 : (y2 != x2) = true := by simp; omega
          clear q1 q2 hc
          obtain ⟨m0, m1, m2, m3⟩ := four K2y.out
          obtain ⟨e0, e1, e2, e3⟩ := four KY.out
          obtain ⟨d0, d1, d2⟩ := three K1y.out
          obtain ⟨b1, n1, c1, w1, hr1, ho1, hb1, kk1⟩ := app_oneR wy Z u5 _ y1 y2 y3 y4 O1.out (by first | (have := LN.out; omega) | (have := LN.out; simp; omega)) zy
          have z1 : Z ≤ w1.heap.size := Nat.le_trans zy hb1.size
          have HR1 := Lib.hid hr1
          have K1_1 := Lib.hid (show Blk w1 G 24 _ from (hb1.block G (by omega)).trans K1y.out)
          have K2_1 := Lib.hid (show Blk w1 (G + 1) 72 #[.int .i64 x1, .int .i64 x2, .int .i64 x3, .int .i64 x4] from (hb1.block (G + 1) (by omega)).trans K2y.out)
          have K3_1 := Lib.hid (show Blk w1 (G + 1 + 1) 24 #[.int .i64 0, .int .i64 0, .slice none 0 0] from (hb1.block (G + 1 + 1) (by omega)).trans K3y.out)
          have B_1 := Lib.hid (By.out.trans (hb1.mono (by have := HZ.out; have := HG.out; omega)))
          obtain ⟨p10, p11, p12, p13⟩ := four K2_1.out
          have OF := Lib.hid (show Ro.OwnA w1 Z (.slice b1 n1 c1) (putK l p h (x1, x2, x3, x4) (k + 1)) by rw [HST.out]; exact ho1)
          clear hr1 ho1 hb1 kk1 hyy
          go_wp2_with (first | (at_builtin; refine wpList_app_run rfl _ _ 22 22 rfl _ _ _ w1 rfl rfl HR1.out ?_))
          go_roundw
          case rel => exact ⟨k + 1, by omega, by go_num, by rw [decide_eq_false (by omega)], OF, z1, K1_1, K2_1, K3_1, B_1⟩
          case measure => simp [intOf]; omega
      · have hc := PA.out (by rw [← hkp, HE.out]; exact hlt)
        rw [← hkp, HY.out] at hc
        simp only at hc
        by_cases q1 : x1 < y1
        · have hh2 := HN.out (Or.inl (by rw [← hkp, HY.out]; exact q1))
          have e9 : decide (p < k) = false := decide_eq_false (by omega)
          obtain rfl : h = false := hh2
          have HST := Lib.hid (show putK l p false (x1, x2, x3, x4) (k + 1) = putK l p false (x1, x2, x3, x4) k ++ [(x1, x2, x3, x4)] ++ [(y1, y2, y3, y4)] from by have := putK_not l p (x1, x2, x3, x4) (by rw [HE.out]; omega); rw [← hkp, HY.out] at this; rw [hkp] at this ⊢; exact this)
          have t1 : decide (x1 < y1) = true := decide_eq_true q1
          have t4 : (y1 != x1) = true := by simp; omega
          have HKP := Lib.hid hkp
          clear q1 hc hkp
          obtain ⟨m0, m1, m2, m3⟩ := four K2y.out
          obtain ⟨e0, e1, e2, e3⟩ := four KY.out
          obtain ⟨d0, d1, d2⟩ := three K1y.out
          obtain ⟨b1, n1, c1, w1, hr1, ho1, hb1, kk1⟩ := app_oneR wy Z u5 _ x1 x2 x3 x4 O1.out (by first | (have := LN.out; omega) | (have := LN.out; simp; omega)) zy
          have z1 : Z ≤ w1.heap.size := Nat.le_trans zy hb1.size
          have HR1 := Lib.hid hr1
          have K1_1 := Lib.hid (show Blk w1 G 24 _ from (hb1.block G (by omega)).trans K1y.out)
          have K2_1 := Lib.hid (show Blk w1 (G + 1) 72 #[.int .i64 x1, .int .i64 x2, .int .i64 x3, .int .i64 x4] from (hb1.block (G + 1) (by omega)).trans K2y.out)
          have K3_1 := Lib.hid (show Blk w1 (G + 1 + 1) 24 #[.int .i64 0, .int .i64 0, .slice none 0 0] from (hb1.block (G + 1 + 1) (by omega)).trans K3y.out)
          have B_1 := Lib.hid (By.out.trans (hb1.mono (by have := HZ.out; have := HG.out; omega)))
          obtain ⟨p10, p11, p12, p13⟩ := four K2_1.out
          have KY_1 := Lib.hid (show Blk w1 gy 72 #[.int .i64 y1, .int .i64 y2, .int .i64 y3, .int .i64 y4] from kk1 gy _ KY.out NE.out)
          obtain ⟨r10, r11, r12, r13⟩ := four KY_1.out
          obtain ⟨b2, n2, c2, w2, hr2, ho2, hb2, kk2⟩ := app_oneR w1 Z _ _ y1 y2 y3 y4 ho1 (by first | (have := LN.out; omega) | (have := LN.out; simp; omega)) z1
          have z2 : Z ≤ w2.heap.size := Nat.le_trans z1 hb2.size
          have HR2 := Lib.hid hr2
          have K1_2 := Lib.hid (show Blk w2 G 24 _ from (hb2.block G (by omega)).trans K1_1.out)
          have K2_2 := Lib.hid (show Blk w2 (G + 1) 72 #[.int .i64 x1, .int .i64 x2, .int .i64 x3, .int .i64 x4] from (hb2.block (G + 1) (by omega)).trans K2_1.out)
          have K3_2 := Lib.hid (show Blk w2 (G + 1 + 1) 24 #[.int .i64 0, .int .i64 0, .slice none 0 0] from (hb2.block (G + 1 + 1) (by omega)).trans K3_1.out)
          have B_2 := Lib.hid (B_1.out.trans (hb2.mono (by have := HZ.out; have := HG.out; omega)))
          obtain ⟨p20, p21, p22, p23⟩ := four K2_2.out
          have OF := Lib.hid (show Ro.OwnA w2 Z (.slice b2 n2 c2) (putK l p false (x1, x2, x3, x4) (k + 1)) by rw [HST.out]; exact ho2)
          clear hr1 ho1 hb1 kk1 hr2 ho2 hb2 kk2 hyy
          go_wp2_with (first | (at_builtin; refine wpList_app_run rfl _ _ 22 22 rfl _ _ _ w1 rfl rfl HR1.out ?_) | (at_builtin; refine wpList_app_run rfl _ _ 22 22 rfl _ _ _ w2 rfl rfl HR2.out ?_))
          go_roundw
          case rel => exact ⟨k + 1, by omega, by go_num, by rw [decide_eq_true (by have := HKP.out; omega)], OF, z2, K1_2, K2_2, K3_2, B_2⟩
          case measure => simp [intOf]; omega
        by_cases q2 : x2 = y2
        · have q3 : x1 = y1 := by omega
          have hh2 := HH.out (by rw [← hkp, HE.out]; exact hlt) (by rw [← hkp, HY.out]; exact ⟨q3.symm, q2.symm⟩)
          have e9 : decide (p < k) = false := decide_eq_false (by omega)
          obtain rfl : h = true := hh2
          have HST := Lib.hid (show putK l p true (x1, x2, x3, x4) (k + 1) = putK l p true (x1, x2, x3, x4) k ++ [(x1, x2, x3, x4)] from by rw [hkp]; exact putK_has l p (x1, x2, x3, x4) (by rw [HE.out]; omega))
          have t1 : decide (x1 < y1) = false := by simp; omega
          have t2 : (x1 == y1) = true := by simp; omega
          have t3 : decide (x2 ≤ y2) = true := decide_eq_true (by omega)
          have t4 : (y1 != x1) = false := by simp; omega
          have t5 : (y2 != x2) = false := by simp; omega
          have HKP := Lib.hid hkp
          clear q1 q2 q3 hc hkp
          obtain ⟨m0, m1, m2, m3⟩ := four K2y.out
          obtain ⟨e0, e1, e2, e3⟩ := four KY.out
          obtain ⟨d0, d1, d2⟩ := three K1y.out
          obtain ⟨b1, n1, c1, w1, hr1, ho1, hb1, kk1⟩ := app_oneR wy Z u5 _ x1 x2 x3 x4 O1.out (by first | (have := LN.out; omega) | (have := LN.out; simp; omega)) zy
          have z1 : Z ≤ w1.heap.size := Nat.le_trans zy hb1.size
          have HR1 := Lib.hid hr1
          have K1_1 := Lib.hid (show Blk w1 G 24 _ from (hb1.block G (by omega)).trans K1y.out)
          have K2_1 := Lib.hid (show Blk w1 (G + 1) 72 #[.int .i64 x1, .int .i64 x2, .int .i64 x3, .int .i64 x4] from (hb1.block (G + 1) (by omega)).trans K2y.out)
          have K3_1 := Lib.hid (show Blk w1 (G + 1 + 1) 24 #[.int .i64 0, .int .i64 0, .slice none 0 0] from (hb1.block (G + 1 + 1) (by omega)).trans K3y.out)
          have B_1 := Lib.hid (By.out.trans (hb1.mono (by have := HZ.out; have := HG.out; omega)))
          obtain ⟨p10, p11, p12, p13⟩ := four K2_1.out
          have KY_1 := Lib.hid (show Blk w1 gy 72 #[.int .i64 y1, .int .i64 y2, .int .i64 y3, .int .i64 y4] from kk1 gy _ KY.out NE.out)
          obtain ⟨r10, r11, r12, r13⟩ := four KY_1.out
          have OF := Lib.hid (show Ro.OwnA w1 Z (.slice b1 n1 c1) (putK l p true (x1, x2, x3, x4) (k + 1)) by rw [HST.out]; exact ho1)
          clear hr1 ho1 hb1 kk1 hyy
          go_wp2_with (first | (at_builtin; refine wpList_app_run rfl _ _ 22 22 rfl _ _ _ w1 rfl rfl HR1.out ?_))
          go_roundw
          case rel => exact ⟨k + 1, by omega, by go_num, by rw [decide_eq_true (by have := HKP.out; omega)], OF, z1, K1_1, K2_1, K3_1, B_1⟩
          case measure => simp [intOf]; omega
        · have q3 : x1 = y1 := by omega
          have hh2 := HN.out (Or.inr (by rw [← hkp, HY.out]; exact ⟨q3, by simp only; omega⟩))
          have e9 : decide (p < k) = false := decide_eq_false (by omega)
          obtain rfl : h = false := hh2
          have HST := Lib.hid (show putK l p false (x1, x2, x3, x4) (k + 1) = putK l p false (x1, x2, x3, x4) k ++ [(x1, x2, x3, x4)] ++ [(y1, y2, y3, y4)] from by have := putK_not l p (x1, x2, x3, x4) (by rw [HE.out]; omega); rw [← hkp, HY.out] at this; rw [hkp] at this ⊢; exact this)
          have t1 : decide (x1 < y1) = false := by simp; omega
          have t2 : (x1 == y1) = true := by simp; omega
          have t3 : decide (x2 ≤ y2) = true := decide_eq_true (by omega)
          have t4 : (y1 != x1) = false := by simp; omega
          have t5 : (y2 != x2) = true := by simp; omega
          have HKP := Lib.hid hkp
          clear q1 q2 q3 hc hkp
          obtain ⟨m0, m1, m2, m3⟩ := four K2y.out
          obtain ⟨e0, e1, e2, e3⟩ := four KY.out
          obtain ⟨d0, d1, d2⟩ := three K1y.out
          obtain ⟨b1, n1, c1, w1, hr1, ho1, hb1, kk1⟩ := app_oneR wy Z u5 _ x1 x2 x3 x4 O1.out (by first | (have := LN.out; omega) | (have := LN.out; simp; omega)) zy
          have z1 : Z ≤ w1.heap.size := Nat.le_trans zy hb1.size
          have HR1 := Lib.hid hr1
          have K1_1 := Lib.hid (show Blk w1 G 24 _ from (hb1.block G (by omega)).trans K1y.out)
          have K2_1 := Lib.hid (show Blk w1 (G + 1) 72 #[.int .i64 x1, .int .i64 x2, .int .i64 x3, .int .i64 x4] from (hb1.block (G + 1) (by omega)).trans K2y.out)
          have K3_1 := Lib.hid (show Blk w1 (G + 1 + 1) 24 #[.int .i64 0, .int .i64 0, .slice none 0 0] from (hb1.block (G + 1 + 1) (by omega)).trans K3y.out)
          have B_1 := Lib.hid (By.out.trans (hb1.mono (by have := HZ.out; have := HG.out; omega)))
          obtain ⟨p10, p11, p12, p13⟩ := four K2_1.out
          have KY_1 := Lib.hid (show Blk w1 gy 72 #[.int .i64 y1, .int .i64 y2, .int .i64 y3, .int .i64 y4] from kk1 gy _ KY.out NE.out)
          obtain ⟨r10, r11, r12, r13⟩ := four KY_1.out
          obtain ⟨b2, n2, c2, w2, hr2, ho2, hb2, kk2⟩ := app_oneR w1 Z _ _ y1 y2 y3 y4 ho1 (by first | (have := LN.out; omega) | (have := LN.out; simp; omega)) z1
          have z2 : Z ≤ w2.heap.size := Nat.le_trans z1 hb2.size
          have HR2 := Lib.hid hr2
          have K1_2 := Lib.hid (show Blk w2 G 24 _ from (hb2.block G (by omega)).trans K1_1.out)
          have K2_2 := Lib.hid (show Blk w2 (G + 1) 72 #[.int .i64 x1, .int .i64 x2, .int .i64 x3, .int .i64 x4] from (hb2.block (G + 1) (by omega)).trans K2_1.out)
          have K3_2 := Lib.hid (show Blk w2 (G + 1 + 1) 24 #[.int .i64 0, .int .i64 0, .slice none 0 0] from (hb2.block (G + 1 + 1) (by omega)).trans K3_1.out)
          have B_2 := Lib.hid (B_1.out.trans (hb2.mono (by have := HZ.out; have := HG.out; omega)))
          obtain ⟨p20, p21, p22, p23⟩ := four K2_2.out
          have OF := Lib.hid (show Ro.OwnA w2 Z (.slice b2 n2 c2) (putK l p false (x1, x2, x3, x4) (k + 1)) by rw [HST.out]; exact ho2)
          clear hr1 ho1 hb1 kk1 hr2 ho2 hb2 kk2 hyy
          go_wp2_with (first | (at_builtin; refine wpList_app_run rfl _ _ 22 22 rfl _ _ _ w1 rfl rfl HR1.out ?_) | (at_builtin; refine wpList_app_run rfl _ _ 22 22 rfl _ _ _ w2 rfl rfl HR2.out ?_))
          go_roundw
          case rel => exact ⟨k + 1, by omega, by go_num, by rw [decide_eq_true (by have := HKP.out; omega)], OF, z2, K1_2, K2_2, K3_2, B_2⟩
          case measure => simp [intOf]; omega
      · have hc := PG.out k hkp (by rw [HE.out]; exact hlt)
        rw [HY.out] at hc
        simp only at hc
        by_cases q1 : y1 = x1
        · have e9 : decide (p < k) = true := decide_eq_true (by omega)
          have HST := Lib.hid (by have := putK_above l p h (x1, x2, x3, x4) k hkp (by rw [HE.out]; exact hlt); rw [HY.out] at this; exact this)
          have t4 : (y1 != x1) = false := by simp; omega
          have t5 : (y2 != x2) = true := by simp; omega
          clear q1 hc
          obtain ⟨m0, m1, m2, m3⟩ := four K2y.out
          obtain ⟨e0, e1, e2, e3⟩ := four KY.out
          obtain ⟨d0, d1, d2⟩ := three K1y.out
          obtain ⟨b1, n1, c1, w1, hr1, ho1, hb1, kk1⟩ := app_oneR wy Z u5 _ y1 y2 y3 y4 O1.out (by first | (have := LN.out; omega) | (have := LN.out; simp; omega)) zy
          have z1 : Z ≤ w1.heap.size := Nat.le_trans zy hb1.size
          have HR1 := Lib.hid hr1
          have K1_1 := Lib.hid (show Blk w1 G 24 _ from (hb1.block G (by omega)).trans K1y.out)
          have K2_1 := Lib.hid (show Blk w1 (G + 1) 72 #[.int .i64 x1, .int .i64 x2, .int .i64 x3, .int .i64 x4] from (hb1.block (G + 1) (by omega)).trans K2y.out)
          have K3_1 := Lib.hid (show Blk w1 (G + 1 + 1) 24 #[.int .i64 0, .int .i64 0, .slice none 0 0] from (hb1.block (G + 1 + 1) (by omega)).trans K3y.out)
          have B_1 := Lib.hid (By.out.trans (hb1.mono (by have := HZ.out; have := HG.out; omega)))
          obtain ⟨p10, p11, p12, p13⟩ := four K2_1.out
          have OF := Lib.hid (show Ro.OwnA w1 Z (.slice b1 n1 c1) (putK l p h (x1, x2, x3, x4) (k + 1)) by rw [HST.out]; exact ho1)
          clear hr1 ho1 hb1 kk1 hyy
          go_wp2_with (first | (at_builtin; refine wpList_app_run rfl _ _ 22 22 rfl _ _ _ w1 rfl rfl HR1.out ?_))
          go_roundw
          case rel => exact ⟨k + 1, by omega, by go_num, by rw [decide_eq_true (by omega)], OF, z1, K1_1, K2_1, K3_1, B_1⟩
          case measure => simp [intOf]; omega
        · have e9 : decide (p < k) = true := decide_eq_true (by omega)
          have HST := Lib.hid (by have := putK_above l p h (x1, x2, x3, x4) k hkp (by rw [HE.out]; exact hlt); rw [HY.out] at this; exact this)
          have t4 : (y1 != x1) = true := by simp; omega
          clear q1 hc
          obtain ⟨m0, m1, m2, m3⟩ := four K2y.out
          obtain ⟨e0, e1, e2, e3⟩ := four KY.out
          obtain ⟨d0, d1, d2⟩ := three K1y.out
          obtain ⟨b1, n1, c1, w1, hr1, ho1, hb1, kk1⟩ := app_oneR wy Z u5 _ y1 y2 y3 y4 O1.out (by first | (have := LN.out; omega) | (have := LN.out; simp; omega)) zy
          have z1 : Z ≤ w1.heap.size := Nat.le_trans zy hb1.size
          have HR1 := Lib.hid hr1
          have K1_1 := Lib.hid (show Blk w1 G 24 _ from (hb1.block G (by omega)).trans K1y.out)
          have K2_1 := Lib.hid (show Blk w1 (G + 1) 72 #[.int .i64 x1, .int .i64 x2, .int .i64 x3, .int .i64 x4] from (hb1.block (G + 1) (by omega)).trans K2y.out)
          have K3_1 := Lib.hid (show Blk w1 (G + 1 + 1) 24 #[.int .i64 0, .int .i64 0, .slice none 0 0] from (hb1.block (G + 1 + 1) (by omega)).trans K3y.out)
          have B_1 := Lib.hid (By.out.trans (hb1.mono (by have := HZ.out; have := HG.out; omega)))
          obtain ⟨p10, p11, p12, p13⟩ := four K2_1.out
          have OF := Lib.hid (show Ro.OwnA w1 Z (.slice b1 n1 c1) (putK l p h (x1, x2, x3, x4) (k + 1)) by rw [HST.out]; exact ho1)
          clear hr1 ho1 hb1 kk1 hyy
          go_wp2_with (first | (at_builtin; refine wpList_app_run rfl _ _ 22 22 rfl _ _ _ w1 rfl rfl HR1.out ?_))
          go_roundw
          case rel => exact ⟨k + 1, by omega, by go_num, by rw [decide_eq_true (by omega)], OF, z1, K1_1, K2_1, K3_1, B_1⟩
          case measure => simp [intOf]; omega
    · have hkN : N = k := by omega
      subst hkN
      clear hlt hk
      by_cases hpN : p < N
      · have e9 : decide (p < N) = true := decide_eq_true hpN
        have ho2 := ho.out
        rw [HEND.out hpN] at ho2
        obtain ⟨a6, c6, e6, -, -⟩ := OwnR.view encR_len ho2
        obtain ⟨n6, hn6⟩ : ∃ n, (putL l p h (x1, x2, x3, x4)).length = n := ⟨_, rfl⟩
        rw [hn6] at e6
        subst e6
        have O6 := Lib.hid ho2
        clear ho2 ho hn6 hpN
        have fz1 := fun q => K1.out.frozen q
        replace O6 := Lib.hid (OwnR.far O6.out (p := ⟨G, 2, none⟩) (show G < Z by have := HZ.out; omega) (.slice a6 n6 c6))
        replace K1 := Lib.hid (show Blk (wr.setCell ⟨G, 2, none⟩ (.slice a6 n6 c6)) G 24 #[.int .i64 cap, .int .i64 len, .slice a6 n6 c6] from K1.out.set_ 2 _)
        replace K3 := Lib.hid (K3.out.far (p := ⟨G, 2, none⟩) (by simp; omega) (.slice a6 n6 c6))
        replace hbe := Lib.hid (hbe.out.setCell (p := ⟨G, 2, none⟩) (show w.heap.size ≤ G by have := HG.out; omega) (.slice a6 n6 c6))
        go_upto_region 15 with (fail)
        generalize hw7 : wr.setCell ⟨G, 2, none⟩ (.slice a6 n6 c6) = w7 at O6 K1 K3 hbe ⊢
        clear hw7 fz1 K2 d0 d1 d2 m0 m1 m2 m3
        obtain ⟨d0, d1, d2⟩ := three K1.out
        obtain ⟨h0, h1, h2⟩ := three K3.out
        have fz := fun q => K3.out.frozen q
        go_wp2
        have K9 := Lib.hid (K3.out.set3 (.int .i64 cap) (.int .i64 len) (.slice a6 n6 c6))
        have B9 := Lib.hid (below_set3 hbe.out (show w.heap.size ≤ G + 1 + 1 by have := HG.out; omega) (.int .i64 cap) (.int .i64 len) (.slice a6 n6 c6))
        have O9 := Lib.hid (own_far3 O6.out (show G + 1 + 1 < Z by have := HZ.out; omega) (.int .i64 cap) (.int .i64 len) (.slice a6 n6 c6))
        simp only [set3] at K9 B9 O9
        generalize hw2 : ((w7.setCell ⟨G + 1 + 1, 0, none⟩ (.int .i64 cap)).setCell ⟨G + 1 + 1, 1, none⟩ (.int .i64 len)).setCell ⟨G + 1 + 1, 2, none⟩ (.slice a6 n6 c6) = w9 at K9 B9 O9 ⊢
        clear hw2 d0 d1 d2 h0 h1 h2 fz
        obtain ⟨d0, d1, d2⟩ := three K9.out
        obtain ⟨av, cv, ev, -, hv⟩ := OwnR.view encR_len O9.out
        injection ev with ev1 ev2 ev3
        have NL := Lib.hid ev2
        have HV := Lib.hid hv
        have FR := Lib.hid (fun q hq => OwnR.block O9.out q hq)
        clear ev2 hv ev3
        refine bodyPost_ret (by simp [results, Try.results57, go_sem, d0, d1, d2]; try rfl) rfl ?_
        refine ⟨⟨a6, c6, by rw [NL.out], by rw [ev1]; exact HV.out, fun q hq => by have := FR.out q hq; have := HZ.out; have := HG.out; omega⟩, B9.out⟩
      · have e9 : decide (p < N) = false := decide_eq_false hpN
        have hpE : p = N := by omega
        obtain ⟨a6, n6, c6, w1, hr1, ho1, hb1, -⟩ := app_oneR wr Z u5 _ x1 x2 x3 x4 ho.out (by have := putK_len l p h (x1, x2, x3, x4) N (by rw [HE.out]; exact Nat.le_refl _); omega) hzr
        have HR1 := Lib.hid hr1
        rw [HLST.out hpE] at ho1
        have O6 := Lib.hid ho1
        replace K1 := Lib.hid (show Blk w1 G 24 #[.int .i64 cap, .int .i64 len, .slice a N c] from (hb1.block G (by omega)).trans K1.out)
        replace K3 := Lib.hid (show Blk w1 (G + 1 + 1) 24 #[.int .i64 0, .int .i64 0, .slice none 0 0] from (hb1.block (G + 1 + 1) (by omega)).trans K3.out)
        have K2w := Lib.hid (show Blk w1 (G + 1) 72 #[.int .i64 x1, .int .i64 x2, .int .i64 x3, .int .i64 x4] from (hb1.block (G + 1) (by omega)).trans K2.out)
        replace hbe := Lib.hid (hbe.out.trans (hb1.mono (by have := HZ.out; have := HG.out; omega)))
        clear hr1 ho1 hb1 ho hpE hpN
        obtain ⟨v0, v1, v2⟩ := three K1.out
        go_upto_region 14 with (at_builtin; refine wpList_app_run rfl _ _ 22 22 rfl _ _ _ w1 rfl rfl HR1.out ?_)
        clear d0 d1 d2
        obtain ⟨d0, d1, d2⟩ := three K1.out
        clear v0 v1 v2
        have fz1 := fun q => K1.out.frozen q
        replace O6 := Lib.hid (OwnR.far O6.out (p := ⟨G, 2, none⟩) (show G < Z by have := HZ.out; omega) (.slice a6 n6 c6))
        replace K1 := Lib.hid (show Blk (w1.setCell ⟨G, 2, none⟩ (.slice a6 n6 c6)) G 24 #[.int .i64 cap, .int .i64 len, .slice a6 n6 c6] from K1.out.set_ 2 _)
        replace K3 := Lib.hid (K3.out.far (p := ⟨G, 2, none⟩) (by simp; omega) (.slice a6 n6 c6))
        replace hbe := Lib.hid (hbe.out.setCell (p := ⟨G, 2, none⟩) (show w.heap.size ≤ G by have := HG.out; omega) (.slice a6 n6 c6))
        go_upto_region 15 with (fail)
        generalize hw7 : w1.setCell ⟨G, 2, none⟩ (.slice a6 n6 c6) = w7 at O6 K1 K3 hbe ⊢
        clear hw7 fz1 K2 d0 d1 d2 m0 m1 m2 m3
        obtain ⟨d0, d1, d2⟩ := three K1.out
        obtain ⟨h0, h1, h2⟩ := three K3.out
        have fz := fun q => K3.out.frozen q
        go_wp2
        have K9 := Lib.hid (K3.out.set3 (.int .i64 cap) (.int .i64 len) (.slice a6 n6 c6))
        have B9 := Lib.hid (below_set3 hbe.out (show w.heap.size ≤ G + 1 + 1 by have := HG.out; omega) (.int .i64 cap) (.int .i64 len) (.slice a6 n6 c6))
        have O9 := Lib.hid (own_far3 O6.out (show G + 1 + 1 < Z by have := HZ.out; omega) (.int .i64 cap) (.int .i64 len) (.slice a6 n6 c6))
        simp only [set3] at K9 B9 O9
        generalize hw2 : ((w7.setCell ⟨G + 1 + 1, 0, none⟩ (.int .i64 cap)).setCell ⟨G + 1 + 1, 1, none⟩ (.int .i64 len)).setCell ⟨G + 1 + 1, 2, none⟩ (.slice a6 n6 c6) = w9 at K9 B9 O9 ⊢
        clear hw2 d0 d1 d2 h0 h1 h2 fz
        obtain ⟨d0, d1, d2⟩ := three K9.out
        obtain ⟨av, cv, ev, -, hv⟩ := OwnR.view encR_len O9.out
        injection ev with ev1 ev2 ev3
        have NL := Lib.hid ev2
        have HV := Lib.hid hv
        have FR := Lib.hid (fun q hq => OwnR.block O9.out q hq)
        clear ev2 hv ev3
        refine bodyPost_ret (by simp [results, Try.results57, go_sem, d0, d1, d2]; try rfl) rfl ?_
        refine ⟨⟨a6, c6, by rw [NL.out], by rw [ev1]; exact HV.out, fun q hq => by have := FR.out q hq; have := HZ.out; have := HG.out; omega⟩, B9.out⟩
end Go.Proofs.Ytcgdhankllphgaa
