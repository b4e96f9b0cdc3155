/- Contracts: the reference's Use. -/
import Derived.Test.YtjmegfejnocegaaR
namespace Go.Proofs.Ytjmegfejnocegaa
set_option linter.unusedVariables false
set_option linter.unusedSimpArgs false
open Go.RowKit
theorem empty_A (W : World) : OwnA (W.alloc (.cells #[] 53)) W.heap.size (.slice (some ⟨W.heap.size, 0, none⟩) 0 0) [] := ⟨rfl, .inr ⟨W.heap.size, 0, #[], rfl, Nat.le_refl _, heap_alloc_new W _, Nat.le_refl _, Nat.zero_le _, rfl, rfl⟩⟩
set_option maxRecDepth 100000 in
set_option maxHeartbeats 1000000 in
theorem useref_any (a : Option Addr) (cap : Nat) (l : List Ac) (x m : Int) (w : World) (hp : AcA w a l) (hok : OkA l) :
    Calls Try.prog 25 #[.slice a l.length cap, .int .i64 x, .int .i64 m] w (GivesK w.heap.size w (useLL l x m) (useE l x m)) := by
  have CP := Lib.hid (fun W (hb : Below w.heap.size w W) => place_any a cap l x W (hp.mono hb) hok)
  have hm := hok.2
  have HP := Lib.hid hp
  have K0 := Lib.hid (Blk.new w 41 #[.slice none 0 0, .int .i64 0])
  have B0 := Lib.hid (show Below w.heap.size w (w.alloc (.cells #[.slice none 0 0, .int .i64 0] 41)) from (Below.refl _ _).alloc (Nat.le_refl _) _)
  have EQ : useE l x m = if hasA l x = true then (if m < -1099511627776 ∨ 1099511627776 < m ∨ useN l x m < 0 ∨ 1099511627776 < useN l x m then 1 else 0) else 5 := rfl
  have EN : useN l x m = (l.getD (posA l x) (0, 0, 0)).2.2 + m := rfl
  by_cases c3 : hasA l x = true
  case neg =>
    rw [if_neg c3] at EQ CP
    have G := Lib.hid (fun W hb => usek_none (B := w.heap.size) (w := w) (w' := W) EQ (by decide) hb)
    obtain ⟨N, hN⟩ : ∃ N, l.length = N := ⟨_, rfl⟩
    rw [hN] at CP hm ⊢
    clear hp hok EQ EN c3 hN HP
    go_enter Try.func25, Try.ntmps25
    go_wp2_with fail
    refine (CP.out _ B0.out).mono ?_
    rintro e w1 ⟨rfl, hb⟩
    have B1 := Lib.hid (show Below w.heap.size w w1 from bt B0.out hb)
    have K1 := Lib.hid (K0.out.below hb (by simp))
    clear hb
    go_wp2_with (refine wpList_store_blk rfl _ _ _ rfl w.heap.size 41 _ #[.slice none 0 0, .int .i64 5] rfl rfl K1.out infoK rfl (by simp [Value.oneCell']) rfl ?_)
    refine bodyPost_ret (v := .agg #[.slice none 0 0, .int .i64 5]) (results_cell_row rfl _ _ _ 41 _ (0, 0) _ rfl (K1.out.row_ _) Try.underlying41 rfl infoK) rfl ?_
    exact G.out _ (below_setRow B1.out (Nat.le_refl _) _)
  rw [if_pos c3] at EQ CP
  obtain ⟨hpl, -⟩ := (hasA_iff l x).1 c3
  obtain ⟨-, -, o3, o4⟩ := hok.w hpl
  clear c3
  have AU := Lib.hid (fun (W : World) (g : Nat) (h : AcA W (some ⟨g, 0, none⟩) l) => AcA.use h hpl (useN l x m))
  have HR := Lib.hid (show ∀ W a, AcA W a (useL l (posA l x) (useN l x m)) → useE l x m = 0 → Below w.heap.size w W → ∀ c, GivesK w.heap.size w (useLL l x m) (useE l x m) (.returned (.agg #[.slice a l.length c, .int .i64 0])) W from fun W a h he hb c => by
    rw [he, show useLL l x m = _ from if_pos he]; exact ⟨a, c, by rw [useL_len], h, hb⟩)
  obtain ⟨p, hpp⟩ : ∃ p, posA l x = p := ⟨_, rfl⟩
  rw [hpp] at EN CP hpl o3 o4 AU HR
  have PC := Lib.hid (fun W (hb : Below w.heap.size w W) => AcA.at_ (HP.out.mono hb) (k := p) hpl)
  obtain ⟨y, hy⟩ : ∃ y, l.getD p (0, 0, 0) = y := ⟨_, rfl⟩
  rw [hy] at EN o3 o4 PC
  obtain ⟨y1, y2, y3⟩ := y
  simp only at EN o3 o4 PC
  rw [EN] at EQ AU HR
  by_cases c : m < -1099511627776 ∨ 1099511627776 < m ∨ y3 + m < 0 ∨ 1099511627776 < y3 + m
  · rw [if_pos c] at EQ
    have G := Lib.hid (fun W hb => usek_none (B := w.heap.size) (w := w) (w' := W) EQ (by decide) hb)
    have HC := Lib.hid c
    obtain ⟨N, hN⟩ : ∃ N, l.length = N := ⟨_, rfl⟩
    rw [hN] at CP hm hpl ⊢
    clear hp hok EQ EN hN HP hy hpp c AU HR
    by_cases c2 : 1099511627776 < m
    · have d2 : decide (1099511627776 < m) = true := decide_eq_true c2
      go_enter Try.func25, Try.ntmps25
      go_wp2_with fail
      refine (CP.out _ B0.out).mono ?_
      rintro e w1 ⟨rfl, hb⟩
      have B1 := Lib.hid (show Below w.heap.size w w1 from bt B0.out hb)
      have K1 := Lib.hid (K0.out.below hb (by simp))
      clear hb
      go_wp2_with (refine wpList_store_blk rfl _ _ _ rfl w.heap.size 41 _ #[.slice none 0 0, .int .i64 1] rfl rfl K1.out infoK rfl (by simp [Value.oneCell']) rfl ?_)
      refine bodyPost_ret (v := .agg #[.slice none 0 0, .int .i64 1]) (results_cell_row rfl _ _ _ 41 _ (0, 0) _ rfl (K1.out.row_ _) Try.underlying41 rfl infoK) rfl ?_
      exact G.out _ (below_setRow B1.out (Nat.le_refl _) _)
    have d2 : decide (1099511627776 < m) = false := decide_eq_false c2
    by_cases c1 : m < -1099511627776
    · have d1 : decide (m < -1099511627776) = true := decide_eq_true c1
      go_enter Try.func25, Try.ntmps25
      go_wp2_with fail
      refine (CP.out _ B0.out).mono ?_
      rintro e w1 ⟨rfl, hb⟩
      have B1 := Lib.hid (show Below w.heap.size w w1 from bt B0.out hb)
      have K1 := Lib.hid (K0.out.below hb (by simp))
      clear hb
      go_wp2_with (refine wpList_store_blk rfl _ _ _ rfl w.heap.size 41 _ #[.slice none 0 0, .int .i64 1] rfl rfl K1.out infoK rfl (by simp [Value.oneCell']) rfl ?_)
      refine bodyPost_ret (v := .agg #[.slice none 0 0, .int .i64 1]) (results_cell_row rfl _ _ _ 41 _ (0, 0) _ rfl (K1.out.row_ _) Try.underlying41 rfl infoK) rfl ?_
      exact G.out _ (below_setRow B1.out (Nat.le_refl _) _)
    have d1 : decide (m < -1099511627776) = false := decide_eq_false c1
    by_cases c4 : y3 + m < 0
    · have d4 : decide (y3 + m < 0) = true := decide_eq_true c4
      go_enter Try.func25, Try.ntmps25
      go_wp2_with fail
      refine (CP.out _ B0.out).mono ?_
      rintro e w1 ⟨rfl, hb⟩
      have B1 := Lib.hid (show Below w.heap.size w w1 from bt B0.out hb)
      have K1 := Lib.hid (K0.out.below hb (by simp))
      obtain ⟨b, off, rfl, q0, q1, q2⟩ := PC.out _ B1.out
      clear hb
      go_wp2_with (refine wpList_store_blk rfl _ _ _ rfl w.heap.size 41 _ #[.slice none 0 0, .int .i64 1] rfl rfl K1.out infoK rfl (by simp [Value.oneCell']) rfl ?_)
      refine bodyPost_ret (v := .agg #[.slice none 0 0, .int .i64 1]) (results_cell_row rfl _ _ _ 41 _ (0, 0) _ rfl (K1.out.row_ _) Try.underlying41 rfl infoK) rfl ?_
      exact G.out _ (below_setRow B1.out (Nat.le_refl _) _)
    have d4 : decide (y3 + m < 0) = false := decide_eq_false c4
    have c5 : 1099511627776 < y3 + m := by have := HC.out; omega
    have d5 : decide (1099511627776 < y3 + m) = true := decide_eq_true c5
    go_enter Try.func25, Try.ntmps25
    go_wp2_with fail
    refine (CP.out _ B0.out).mono ?_
    rintro e w1 ⟨rfl, hb⟩
    have B1 := Lib.hid (show Below w.heap.size w w1 from bt B0.out hb)
    have K1 := Lib.hid (K0.out.below hb (by simp))
    obtain ⟨b, off, rfl, q0, q1, q2⟩ := PC.out _ B1.out
    clear hb
    go_wp2_with (refine wpList_store_blk rfl _ _ _ rfl w.heap.size 41 _ #[.slice none 0 0, .int .i64 1] rfl rfl K1.out infoK rfl (by simp [Value.oneCell']) rfl ?_)
    refine bodyPost_ret (v := .agg #[.slice none 0 0, .int .i64 1]) (results_cell_row rfl _ _ _ 41 _ (0, 0) _ rfl (K1.out.row_ _) Try.underlying41 rfl infoK) rfl ?_
    exact G.out _ (below_setRow B1.out (Nat.le_refl _) _)
  rw [if_neg c] at EQ
  have c1 : ¬ m < -1099511627776 := by omega
  have c2 : ¬ 1099511627776 < m := by omega
  have c4 : ¬ y3 + m < 0 := by omega
  have c5 : ¬ 1099511627776 < y3 + m := by omega
  have d1 : decide (m < -1099511627776) = false := decide_eq_false c1
  have d2 : decide (1099511627776 < m) = false := decide_eq_false c2
  have d4 : decide (y3 + m < 0) = false := decide_eq_false c4
  have d5 : decide (1099511627776 < y3 + m) = false := decide_eq_false c5
  have EZ := Lib.hid EQ
  obtain ⟨N, hN⟩ : ∃ N, l.length = N := ⟨_, rfl⟩
  have HE := Lib.hid hN
  have HY := Lib.hid hy
  rw [hN] at CP hm hpl HR ⊢
  clear hp hok EQ EN hN hy hpp c
  go_enter Try.func25, Try.ntmps25
  go_wp2_with fail
  refine (CP.out _ B0.out).mono ?_
  rintro e w1 ⟨rfl, hb⟩
  have B1 := Lib.hid (show Below w.heap.size w w1 from bt B0.out hb)
  have K1 := Lib.hid (K0.out.below hb (by simp))
  obtain ⟨b, off, rfl, q0, q1, q2⟩ := PC.out _ B1.out
  have z1 : w.heap.size < w1.heap.size := K1.out.lt
  clear hb
  obtain ⟨b2, n2, c6, w2, hr, ho, hb⟩ := app_A 35 (w1.alloc (.cells #[] 53)) w1.heap.size _ [] (empty_A w1) (some ⟨b, off, none⟩) cap l (HP.out.mono (B1.out.alloc B1.out.size _)) (by simp) (by rw [HE.out]; omega) (by simp)
  rw [HE.out] at hr
  rw [List.nil_append] at ho
  have HRN := Lib.hid hr
  have B2 := Lib.hid (show Below w.heap.size w w2 from (B1.out.alloc B1.out.size _).trans (hb.mono (by omega)))
  have K2 := Lib.hid ((K1.out.alloc (.cells #[] 53)).below hb z1)
  obtain ⟨g, cap2, cur, e2, hBg, hnc, hcm, hg, hsz, htk⟩ := ho.row (by rw [HE.out]; omega)
  injection e2 with e3 e4 e5
  subst e3
  have e5' := e5.symm
  subst e5'
  rw [HE.out] at hnc e4
  have e4' := e4.symm
  subst e4'
  have KG := Lib.hid (show Blk w2 g 53 cur from hg)
  obtain ⟨a2, c2', e2, -, hi⟩ := ho.view encA_len
  injection e2 with e3 e4 e5
  subst e3
  have HI := Lib.hid hi
  obtain ⟨b3, off3, e6, r0, r1, r2⟩ := AcA.at_ hi (k := p) (by rw [HE.out]; exact hpl)
  injection e6 with e6; injection e6 with e7 e8; subst e7; subst e8
  rw [HY.out] at r0 r1 r2
  rw [Nat.zero_add] at r0 r1 r2
  simp only at r0 r1 r2
  have fz : w2.frozen? ⟨g, p * 3 + 2, none⟩ = false := KG.out.frozen _
  have zg : w.heap.size ≠ g := by omega
  have hc63 : cap2 ≤ 9223372036854775807 := by unfold maxLen at hcm; omega
  have AF := Lib.hid (AU.out _ _ HI.out)
  have KF := Lib.hid (K2.out.far (p := ⟨g, p * 3 + 2, none⟩) zg (.int .i64 (y3 + m)))
  have BF := Lib.hid (show Below w.heap.size w (w2.setCell ⟨g, p * 3 + 2, none⟩ (.int .i64 (y3 + m))) from B2.out.setCell (by simp; omega) _)
  clear ho hb hg hsz htk hi hcm hr hnc e4 e5
  go_wp2_with (first | (at_builtin; refine wpList_app_run rfl _ _ 35 35 rfl _ _ _ w2 rfl rfl HRN.out ?_) | (refine wpList_store_blk rfl _ _ _ rfl w.heap.size 41 _ #[.slice (some ⟨g, 0, none⟩) N cap2, .int .i64 0] rfl rfl KF.out infoK rfl (by simp [Value.oneCell']) rfl ?_))
  refine bodyPost_ret (v := .agg #[.slice (some ⟨g, 0, none⟩) N cap2, .int .i64 0]) (results_cell_row rfl _ _ _ 41 _ (0, 0) _ rfl (KF.out.row_ _) Try.underlying41 rfl infoK) rfl ?_
  exact HR.out _ _ (AF.out.rowfar (fun q e => by injection e with e; subst e; exact fun h => zg h.symm) _) EZ.out (below_setRow BF.out (Nat.le_refl _) _) _
end Go.Proofs.Ytjmegfejnocegaa
