/- Contracts: the reference's Open. -/
import Derived.Test.YtjmegfejnocegaaO
namespace Go.Proofs.Ytjmegfejnocegaa
set_option linter.unusedVariables false
set_option linter.unusedSimpArgs false
open Go.RowKit
theorem kept_none {B : Nat} {w w' : World} {l : List Ac} {x wt er : Int} (h : openE l x wt = er) (h0 : er ≠ 0) (hb : Below B w w') : GivesK B w (openL l x wt) (openE l x wt) (.returned (.agg #[.slice none 0 0, .int .i64 er])) w' := by
  rw [openL_no h h0, h]; exact ⟨none, 0, rfl, RowsA.nil _ _ _ _, hb⟩
theorem infoK : (Try.prog.info? 41).map (·.size) = some 2 := by kernel_rfl
/-- What the reference has appended behind the first k. -/
def outK (l : List Ac) (p : Nat) (a : Ac) (k : Nat) : List Ac := if p < k then insL (l.take k) p a else l.take k
theorem outK_low (l : List Ac) (p : Nat) (a : Ac) (k : Nat) (h : k ≤ p) : outK l p a k = l.take k := if_neg (by omega)
theorem takeA_snoc (l : List Ac) (k : Nat) (h : k < l.length) : l.take (k + 1) = l.take k ++ [l.getD k (0, 0, 0)] := by
  rw [List.take_succ_eq_append_getElem h, List.getD_eq_getElem?_getD, List.getElem?_eq_getElem h]; rfl
theorem outK_below (l : List Ac) (p : Nat) (a : Ac) (k : Nat) (h : k < p) (hk : k < l.length) : outK l p a (k + 1) = outK l p a k ++ [l.getD k (0, 0, 0)] := by
  rw [outK_low _ _ _ _ (by omega), outK_low _ _ _ _ (by omega), takeA_snoc l k hk]
theorem outK_here (l : List Ac) (p : Nat) (a : Ac) (hk : p < l.length) : outK l p a (p + 1) = (outK l p a p ++ [a]) ++ [l.getD p (0, 0, 0)] := by
  have h1 : outK l p a (p + 1) = insL (l.take (p + 1)) p a := if_pos (by omega)
  rw [h1, outK_low _ _ _ _ (Nat.le_refl _)]
  unfold insL
  rw [List.take_take, Nat.min_eq_left (by omega), takeA_snoc l p hk, List.drop_left' (by simp; omega)]
  simp
theorem outK_above (l : List Ac) (p : Nat) (a : Ac) (k : Nat) (h : p < k) (hk : k < l.length) : outK l p a (k + 1) = outK l p a k ++ [l.getD k (0, 0, 0)] := by
  have h1 : outK l p a (k + 1) = insL (l.take (k + 1)) p a := if_pos (by omega)
  have h2 : outK l p a k = insL (l.take k) p a := if_pos (by omega)
  rw [h1, h2]
  unfold insL
  rw [List.take_take, List.take_take, Nat.min_eq_left (by omega), Nat.min_eq_left (by omega), takeA_snoc l k hk, List.drop_append_of_le_length (by simp; omega)]
  simp
theorem outK_all (l : List Ac) (p : Nat) (a : Ac) (h : p < l.length) : outK l p a l.length = insL l p a := by
  have h1 : outK l p a l.length = insL (l.take l.length) p a := if_pos h
  rw [h1, List.take_length]
theorem outK_len (l : List Ac) (p : Nat) (a : Ac) (k : Nat) (h : k ≤ l.length) : (outK l p a k).length ≤ k + 1 := by
  unfold outK; split
  · rw [insL_len _ _ _ (by simp; omega)]; simp; omega
  · simp; omega
set_option maxRecDepth 100000 in
set_option maxHeartbeats 2000000 in
theorem openref_any (a : Option Addr) (cap : Nat) (l : List Ac) (x wt : Int) (w : World) (hp : AcA w a l) (hok : OkA l) :
    Calls Try.prog 23 #[.slice a l.length cap, .int .i64 x, .int .i64 wt] w (GivesK w.heap.size w (openL l x wt) (openE l x wt)) := by
  have CP := Lib.hid (fun W (hb : Below w.heap.size w W) => place_any a cap l x W (hp.mono hb) hok)
  have hm := hok.2
  have hle := posA_le l x
  have HP := Lib.hid hp
  have HK := Lib.hid hok
  have EQ : openE l x wt = if x < 1 ∨ wt < 1 ∨ 1048576 < wt then 1 else if hasA l x = true then 6 else if 1000 ≤ l.length then 2 else 0 := rfl
  have K0 := Lib.hid (Blk.new w 41 #[.slice none 0 0, .int .i64 0])
  have B0 := Lib.hid (show Below w.heap.size w (w.alloc (.cells #[.slice none 0 0, .int .i64 0] 41)) from (Below.refl _ _).alloc (Nat.le_refl _) _)
  by_cases c1 : x < 1 ∨ wt < 1 ∨ 1048576 < wt
  · rw [if_pos (by omega)] at EQ
    have G := Lib.hid (fun W hb => kept_none (B := w.heap.size) (w := w) (w' := W) EQ (by decide) hb)
    have HC := Lib.hid c1
    obtain ⟨N, hN⟩ : ∃ N, l.length = N := ⟨_, rfl⟩
    rw [hN] at hm ⊢
    clear hp hok EQ CP c1 hle HP HK hN
    by_cases d : x < 1
    · have d1 : decide (x < 1) = true := decide_eq_true d
      go_enter Try.func23, Try.ntmps23
      go_wp2
      refine bodyPost_ret (by simp [results, Try.results23, go_sem]; try rfl) rfl ?_
      exact G.out _ ((Below.refl _ _).alloc (Nat.le_refl _) _)
    have d1 : decide (x < 1) = false := decide_eq_false d
    by_cases d2 : wt < 1
    · have d3 : decide (wt < 1) = true := decide_eq_true d2
      go_enter Try.func23, Try.ntmps23
      go_wp2
      refine bodyPost_ret (by simp [results, Try.results23, go_sem]; try rfl) rfl ?_
      exact G.out _ ((Below.refl _ _).alloc (Nat.le_refl _) _)
    have d3 : decide (wt < 1) = false := decide_eq_false d2
    have d4 : 1048576 < wt := by have := HC.out; omega
    have d5 : decide (1048576 < wt) = true := decide_eq_true d4
    go_enter Try.func23, Try.ntmps23
    go_wp2
    refine bodyPost_ret (by simp [results, Try.results23, go_sem]; try rfl) rfl ?_
    exact G.out _ ((Below.refl _ _).alloc (Nat.le_refl _) _)
  rw [if_neg c1] at EQ
  have d1 : decide (x < 1) = false := decide_eq_false (by omega)
  have d3 : decide (wt < 1) = false := decide_eq_false (by omega)
  have d5 : decide (1048576 < wt) = false := decide_eq_false (by omega)
  clear c1
  by_cases c3 : hasA l x = true
  · rw [if_pos c3] at EQ
    rw [if_pos c3] at CP
    have G := Lib.hid (fun W hb => kept_none (B := w.heap.size) (w := w) (w' := W) EQ (by decide) hb)
    obtain ⟨p, hpp⟩ : ∃ p, posA l x = p := ⟨_, rfl⟩
    rw [hpp] at CP
    obtain ⟨N, hN⟩ : ∃ N, l.length = N := ⟨_, rfl⟩
    rw [hN] at CP hm ⊢
    clear hp hok EQ c3 hle HP HK hN hpp
    go_enter Try.func23, Try.ntmps23
    go_wp2_with fail
    refine (CP.out _ B0.out).mono ?_
    rintro e w1 ⟨rfl, hb⟩
    have B1 := Lib.hid (show Below w.heap.size w w1 from bt B0.out hb)
    have K1 := Lib.hid (K0.out.below hb (by simp))
    clear hb
    go_wp2_with (refine wpList_store_blk rfl _ _ _ rfl w.heap.size 41 _ #[.slice none 0 0, .int .i64 6] rfl rfl K1.out infoK rfl (by simp [Value.oneCell']) rfl ?_)
    refine bodyPost_ret (v := .agg #[.slice none 0 0, .int .i64 6]) (results_cell_row rfl _ _ _ 41 _ (0, 0) _ rfl (K1.out.row_ _) Try.underlying41 rfl infoK) rfl ?_
    exact G.out _ (below_setRow B1.out (Nat.le_refl _) _)
  rw [if_neg c3] at EQ CP
  by_cases c4 : 1000 ≤ l.length
  · rw [if_pos c4] at EQ
    have G := Lib.hid (fun W hb => kept_none (B := w.heap.size) (w := w) (w' := W) EQ (by decide) hb)
    obtain ⟨N, hN⟩ : ∃ N, l.length = N := ⟨_, rfl⟩
    rw [hN] at CP c4 hm ⊢
    clear hp hok EQ c3 hle HP HK hN
    go_enter Try.func23, Try.ntmps23
    go_wp2_with fail
    refine (CP.out _ B0.out).mono ?_
    rintro e w1 ⟨rfl, hb⟩
    have B1 := Lib.hid (show Below w.heap.size w w1 from bt B0.out hb)
    have K1 := Lib.hid (K0.out.below hb (by simp))
    clear hb
    go_wp2_with (refine wpList_store_blk rfl _ _ _ rfl w.heap.size 41 _ #[.slice none 0 0, .int .i64 2] rfl rfl K1.out infoK rfl (by simp [Value.oneCell']) rfl ?_)
    refine bodyPost_ret (v := .agg #[.slice none 0 0, .int .i64 2]) (results_cell_row rfl _ _ _ 41 _ (0, 0) _ rfl (K1.out.row_ _) Try.underlying41 rfl infoK) rfl ?_
    exact G.out _ (below_setRow B1.out (Nat.le_refl _) _)
  rw [if_neg c4] at EQ
  have G := Lib.hid (show ∀ W b c, AcA W b (insL l (posA l x) (x, wt, 0)) → Below w.heap.size w W → GivesK w.heap.size w (openL l x wt) (openE l x wt) (.returned (.agg #[.slice b (insL l (posA l x) (x, wt, 0)).length c, .int .i64 0])) W from fun W b c h hb => by
    rw [EQ, show openL l x wt = insL l (posA l x) (x, wt, 0) from if_pos EQ]; exact ⟨b, c, rfl, h, hb⟩)
  have PB := Lib.hid (fun j hj => posA_below l x j hj)
  have PA := Lib.hid (show ∀ j, posA l x ≤ j → j < l.length → x < (l.getD j (0, 0, 0)).1 from fun j h1 h2 => by
    have a1 := hok.above x h1 h2
    have a2 : (l.getD j (0, 0, 0)).1 ≠ x := fun e => c3 (hok.only h2 e).2
    omega)
  have hil := insL_len l (posA l x) (x, wt, 0) hle
  obtain ⟨p, hpp⟩ : ∃ p, posA l x = p := ⟨_, rfl⟩
  rw [hpp] at G PB PA hle hil
  obtain ⟨N, hN⟩ : ∃ N, l.length = N := ⟨_, rfl⟩
  have HE := Lib.hid hN
  rw [hN] at CP c4 hm hle hil ⊢
  rw [hil] at G
  clear hp hok EQ c3 hN hpp hil
  go_enter Try.func23, Try.ntmps23
  go_wp2_with fail
  refine (CP.out _ B0.out).mono ?_
  rintro e w1 ⟨rfl, hb⟩
  have B1 := Lib.hid (show Below w.heap.size w w1 from bt B0.out hb)
  have K1 := Lib.hid (K0.out.below hb (by simp))
  have z1 : w.heap.size < w1.heap.size := K1.out.lt
  clear hb CP K0 B0
  obtain ⟨Z, hZ⟩ : ∃ Z, w1.heap.size = Z := ⟨_, rfl⟩
  have HZ := Lib.hid hZ
  rw [hZ] at z1
  clear hZ
  go_wp2
  go_loopw [7, 8, 9] (fun u7 u8 u9 wr => ∃ (k : Nat), k ≤ N ∧ u9 = .int .i64 k ∧ u8 = .bool (decide (p < k)) ∧ Hid (OwnA wr Z u7 (outK l p (x, wt, 0) k)) ∧ Z ≤ wr.heap.size ∧ Hid (Blk wr w.heap.size 41 #[.slice none 0 0, .int .i64 0]) ∧ Hid (Below w.heap.size w wr)) (fun _ _ u9 _ => N - (intOf u9).toNat)
  case atStart => exact ⟨0, by omega, rfl, by simp, Lib.hid (OwnR.nil _ _ _ _ _), by rw [HZ.out]; exact Nat.le_refl _, K1, B1⟩
  case round =>
    clear B1 K1
    obtain ⟨k, hk, rfl, rfl, ho, hzr, K1, hbe⟩ := hrel
    by_cases hlt : k < N
    · obtain ⟨b, off, rfl, u0, u1, u2⟩ := AcA.at_ HP.out (k := k) (by rw [HE.out]; exact hlt)
      have hbw : b < Z := Nat.lt_trans (block_lt_of_cell u0) z1
      have q0 := keep u0 hbe.out
      have q1 := keep u1 hbe.out
      have q2 := keep u2 hbe.out
      clear u0 u1 u2
      have LN := Lib.hid (show (outK l p (x, wt, 0) k).length ≤ 999999 by have := outK_len l p (x, wt, 0) k (by rw [HE.out]; exact hk); omega)
      by_cases hkp : k = p
      · subst hkp
        have hgt := PA.out k (Nat.le_refl _) (by rw [HE.out]; exact hlt)
        have hst := outK_here l k (x, wt, 0) (by rw [HE.out]; exact hlt)
        obtain ⟨y, hy⟩ : ∃ y, l.getD k (0, 0, 0) = y := ⟨_, rfl⟩
        rw [hy] at q0 q1 q2 hgt hst
        obtain ⟨y1, y2, y3⟩ := y
        simp only at q0 q1 q2 hgt
        have HST := Lib.hid hst
        have e0 : decide (k < k) = false := by simp
        have e1 : decide (x < y1) = true := decide_eq_true hgt
        obtain ⟨b2, n2, c2, w2, hr, ho2, hb2⟩ := app_one wr Z u7 _ x wt 0 ho.out (by have := LN.out; omega) hzr
        have z2 : Z ≤ w2.heap.size := Nat.le_trans hzr hb2.size
        obtain ⟨b3, n3, c3, w3, hr3, ho3, hb3⟩ := app_one w2 Z _ _ y1 y2 y3 ho2 (by have := LN.out; simp; omega) z2
        have HR := Lib.hid hr; have HR3 := Lib.hid hr3
        have p0 : w2.cell? ⟨b, off + k * 3, none⟩ = some (.int .i64 y1) := (hb2.cell (p := ⟨b, _, none⟩) hbw).trans q0
        have p1 : w2.cell? ⟨b, off + k * 3 + 1, none⟩ = some (.int .i64 y2) := (hb2.cell (p := ⟨b, _, none⟩) hbw).trans q1
        have p2 : w2.cell? ⟨b, off + k * 3 + 2, none⟩ = some (.int .i64 y3) := (hb2.cell (p := ⟨b, _, none⟩) hbw).trans q2
        have O3 := Lib.hid (show OwnA w3 Z (.slice b3 n3 c3) (outK l k (x, wt, 0) (k + 1)) by rw [HST.out]; exact ho3)
        have B3 := Lib.hid (show Below w.heap.size w w3 from (hbe.out.trans (hb2.mono (by omega))).trans (hb3.mono (by omega)))
        have K3 := Lib.hid ((K1.out.below hb2 z1).below hb3 z1)
        have z3 : Z ≤ w3.heap.size := Nat.le_trans z2 hb3.size
        clear hr hr3 ho2 ho3 hb2 hb3 hst hy ho hbe K1 hgt
        go_wp2_with (first | (at_builtin; refine wpList_app_run rfl _ _ 35 35 rfl _ _ _ w2 rfl rfl HR.out ?_) | (at_builtin; refine wpList_app_run rfl _ _ 35 35 rfl _ _ _ w3 rfl rfl HR3.out ?_))
        go_roundw
        case rel => exact ⟨k + 1, by omega, by go_num, by simp, O3, z3, K3, B3⟩
        case measure => simp [intOf]; omega
      · have hst : outK l p (x, wt, 0) (k + 1) = outK l p (x, wt, 0) k ++ [l.getD k (0, 0, 0)] := by
          rcases Nat.lt_or_ge k p with h | h
          · exact outK_below l p _ k h (by rw [HE.out]; exact hlt)
          · exact outK_above l p _ k (by omega) (by rw [HE.out]; exact hlt)
        have hcmp : k < p → (l.getD k (0, 0, 0)).1 < x := fun h => PB.out k h
        obtain ⟨y, hy⟩ : ∃ y, l.getD k (0, 0, 0) = y := ⟨_, rfl⟩
        rw [hy] at q0 q1 q2 hst hcmp
        obtain ⟨y1, y2, y3⟩ := y
        simp only at q0 q1 q2 hcmp
        have HST := Lib.hid hst
        obtain ⟨b3, n3, c3, w3, hr3, ho3, hb3⟩ := app_one wr Z u7 _ y1 y2 y3 ho.out (by have := LN.out; omega) hzr
        have HR3 := Lib.hid hr3
        have O3 := Lib.hid (show OwnA w3 Z (.slice b3 n3 c3) (outK l p (x, wt, 0) (k + 1)) by rw [HST.out]; exact ho3)
        have B3 := Lib.hid (show Below w.heap.size w w3 from hbe.out.trans (hb3.mono (by omega)))
        have K3 := Lib.hid (K1.out.below hb3 z1)
        have z3 : Z ≤ w3.heap.size := Nat.le_trans hzr hb3.size
        clear hr3 ho3 hb3 hst hy ho hbe K1
        rcases Nat.lt_or_ge k p with h | h
        · have e0 : decide (p < k) = false := decide_eq_false (by omega)
          have e2 : decide (p < k + 1) = false := decide_eq_false (by omega)
          have e1 : decide (x < y1) = false := decide_eq_false (by have := hcmp h; omega)
          clear hcmp
          go_wp2_with (at_builtin; refine wpList_app_run rfl _ _ 35 35 rfl _ _ _ w3 rfl rfl HR3.out ?_)
          go_roundw
          case rel => exact ⟨k + 1, by omega, by go_num, by rw [e2], O3, z3, K3, B3⟩
          case measure => simp [intOf]; omega
        · have e0 : decide (p < k) = true := decide_eq_true (by omega)
          have e2 : decide (p < k + 1) = true := decide_eq_true (by omega)
          clear hcmp
          go_wp2_with (at_builtin; refine wpList_app_run rfl _ _ 35 35 rfl _ _ _ w3 rfl rfl HR3.out ?_)
          go_roundw
          case rel => exact ⟨k + 1, by omega, by go_num, by rw [e2], O3, z3, K3, B3⟩
          case measure => simp [intOf]; omega
    · have hkN : k = N := by omega
      by_cases hpl : p < N
      · have e0 : decide (p < k) = true := decide_eq_true (by omega)
        have O3 := Lib.hid (show OwnA wr Z u7 (insL l p (x, wt, 0)) by have := ho.out; rw [hkN, ← HE.out, outK_all _ _ _ (by rw [HE.out]; exact hpl)] at this; exact this)
        obtain ⟨b3, c3, rfl, -, hi⟩ := O3.out.view encA_len
        have HZ3 := Lib.hid O3.out.block
        rw [insL_len _ _ _ (by rw [HE.out]; omega), HE.out]
        have HI := Lib.hid hi
        clear ho hi O3 hkN
        go_wp2_with (refine wpList_store_blk rfl _ _ _ rfl w.heap.size 41 _ #[.slice b3 (N + 1) c3, .int .i64 0] rfl rfl K1.out infoK rfl (by simp [Value.oneCell']) rfl ?_)
        refine bodyPost_ret (v := .agg #[.slice b3 (N + 1) c3, .int .i64 0]) (results_cell_row rfl _ _ _ 41 _ (0, 0) _ rfl (K1.out.row_ _) Try.underlying41 rfl infoK) rfl ?_
        exact G.out _ _ _ (HI.out.rowfar (fun q e => by have := HZ3.out q e; omega) _) (below_setRow hbe.out (Nat.le_refl _) _)
      · have hpN : p = N := by omega
        subst hpN
        have e0 : decide (p < k) = false := decide_eq_false (by omega)
        have LN := Lib.hid (show (outK l p (x, wt, 0) k).length ≤ 999999 by have := outK_len l p (x, wt, 0) k (by rw [HE.out]; exact hk); omega)
        obtain ⟨b3, n3, c3, w3, hr3, ho3, hb3⟩ := app_one wr Z u7 _ x wt 0 ho.out (by have := LN.out; omega) hzr
        have HR3 := Lib.hid hr3
        have hend : outK l p (x, wt, 0) k ++ [(x, wt, 0)] = insL l p (x, wt, 0) := by
          rw [outK_low _ _ _ _ (by omega), hkN, ← HE.out, insL_end, List.take_length]
        rw [hend] at ho3
        have HZ3 := Lib.hid ho3.block
        obtain ⟨b4, c4, e4, -, hi⟩ := ho3.view encA_len
        injection e4 with e5 e6 e7
        subst e5 e7
        rw [insL_len _ _ _ (by rw [HE.out]; omega), HE.out] at e6
        subst e6
        have HI := Lib.hid hi
        have B3 := Lib.hid (show Below w.heap.size w w3 from hbe.out.trans (hb3.mono (by omega)))
        have K3 := Lib.hid (K1.out.below hb3 z1)
        clear hr3 ho3 hb3 ho hbe K1 hi hkN hend
        go_wp2_with (first | (at_builtin; refine wpList_app_run rfl _ _ 35 35 rfl _ _ _ w3 rfl rfl HR3.out ?_) | (refine wpList_store_blk rfl _ _ _ rfl w.heap.size 41 _ #[.slice b3 (p + 1) c3, .int .i64 0] rfl rfl K3.out infoK rfl (by simp [Value.oneCell']) rfl ?_))
        refine bodyPost_ret (v := .agg #[.slice b3 (p + 1) c3, .int .i64 0]) (results_cell_row rfl _ _ _ 41 _ (0, 0) _ rfl (K3.out.row_ _) Try.underlying41 rfl infoK) rfl ?_
        exact G.out _ _ _ (HI.out.rowfar (fun q e => by have := HZ3.out q e; omega) _) (below_setRow B3.out (Nat.le_refl _) _)
end Go.Proofs.Ytjmegfejnocegaa
