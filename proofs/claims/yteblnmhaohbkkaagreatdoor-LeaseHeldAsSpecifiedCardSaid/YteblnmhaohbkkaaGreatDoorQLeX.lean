/- Contracts: Worth of the program, and the law LeaseWorthIsExact. -/
import Derived.Test.YteblnmhaohbkkaaGreatDoorQLeS
import Derived.Test.YteblnmhaohbkkaaGreatDoorQLeC
namespace Go.Proofs.YteblnmhaohbkkaaGreatDoor
set_option linter.unusedVariables false
set_option linter.unusedSimpArgs false
namespace Le
open Go.RowKit Go.Sort
theorem four {X : World} {g : Nat} {t : TypeId} {v0 v1 v2 v3 : Value} (h : Blk X g t #[v0, v1, v2, v3]) : X.cell? ⟨g, 0, none⟩ = some v0 ∧ X.cell? ⟨g, 1, none⟩ = some v1 ∧ X.cell? ⟨g, 2, none⟩ = some v2 ∧ X.cell? ⟨g, 3, none⟩ = some v3 := ⟨h.cell 0, h.cell 1, h.cell 2, h.cell 3⟩
set_option maxRecDepth 100000 in
set_option maxHeartbeats 4000000 in
theorem worth_n1 (st he ls le lu lr : Int) (D : List Nat) (cl clo chi cd x : Int) (w : World) (hD : D.length = 16) (h1 : ¬ HeldOk st he lu) : Calls Tryz.prog 8 #[.agg (heldC st he ls le lu lr D), clk cl clo chi cd, .int .i64 x] w fun e w' => e = .returned (.tuple #[.int .i64 0, .int .i64 1]) ∧ Below w.heap.size w w' := by
  have C1 := Lib.hid (fun W => held_any st he ls le lu lr D W hD)
  rw [decide_eq_false h1] at C1
  clear h1
  have BGh := Lib.hid (show BigR 28 (heldC st he ls le lu lr D) from big_held hD)
  obtain ⟨Vh, hVh⟩ : ∃ C, heldC st he ls le lu lr D = C := ⟨_, rfl⟩
  obtain ⟨G, hG⟩ : ∃ G, w.heap.size = G := ⟨_, rfl⟩
  have HG := Lib.hid hG
  have Kh := Lib.hid (show Blk ((w.alloc (.cells Vh 28)).alloc (.cells #[.int .i64 cl, .int .i64 clo, .int .i64 chi, .int .i64 cd] 32)) (G) 28 (heldC st he ls le lu lr D) from by rw [hVh]; exact (Blk.new' _ _ _ _ hG rfl).alloc _)
  have Kc := Lib.hid (show Blk ((w.alloc (.cells Vh 28)).alloc (.cells #[.int .i64 cl, .int .i64 clo, .int .i64 chi, .int .i64 cd] 32)) (G + 1) 32 #[.int .i64 cl, .int .i64 clo, .int .i64 chi, .int .i64 cd] from Blk.new' _ _ _ _ (by rw [World.size_alloc, hG]) rfl)
  have B := Lib.hid (show Below w.heap.size w ((w.alloc (.cells Vh 28)).alloc (.cells #[.int .i64 cl, .int .i64 clo, .int .i64 chi, .int .i64 cd] 32)) by (repeat' (first | (with_reducible exact Below.refl _ _) | (with_reducible assumption) | (with_reducible refine Below.alloc ?_ ?_ _) | (with_reducible refine Below.drew ?_) | (with_reducible refine below_dn ?_) | (with_reducible refine Below.setCell ?_ ?_ _) | (with_reducible exact Nat.le_refl _) | omega | (simp only [World.size_alloc, World.size_setCell, World.size_drew]; omega) | (simp; omega) | (simp; done))))
  try rw [hVh]
  have EVh := Lib.hid hVh
  clear hVh
  go_enter Tryz.func8, Tryz.ntmps8
  go_upto_region 1 with (fail)
  try rw [hG]
  generalize hw0 : ((w.alloc (.cells Vh 28)).alloc (.cells #[.int .i64 cl, .int .i64 clo, .int .i64 chi, .int .i64 cd] 32)) = w0 at Kh Kc B ⊢
  clear hw0 hG
  obtain ⟨bhc0, bhc1, bhc2⟩ := held_at Kh.out
  obtain ⟨bcc0, bcc1, bcc2, bcc3⟩ := four Kc.out
  go_wp2_with (first | (with_reducible refine Hs.wpList_load_all rfl 28 _ rfl (G) rfl 28 (heldC st he ls le lu lr D) _ (Blk.hs Kh.out) Tryz.underlying28 BGh.out.info ?_))
  refine (C1.out _).mono ?_
  rintro e w1 ⟨rfl, hb⟩
  replace Kh := Lib.hid (Kh.out.below hb Kh.out.lt)
  replace Kc := Lib.hid (Kc.out.below hb Kc.out.lt)
  replace B := Lib.hid (B.out.trans (hb.mono B.out.size))
  clear bhc0 bhc1 bhc2 bcc0 bcc1 bcc2 bcc3
  clear hb
  obtain ⟨bhc0, bhc1, bhc2⟩ := held_at Kh.out
  obtain ⟨bcc0, bcc1, bcc2, bcc3⟩ := four Kc.out
  go_wp2
  go_ret2
  exact ⟨rfl, B.out⟩
set_option maxRecDepth 100000 in
set_option maxHeartbeats 4000000 in
theorem worth_n2 (st he ls le lu lr : Int) (D : List Nat) (cl clo chi cd x : Int) (w : World) (hD : D.length = 16) (h1 : HeldOk st he lu) (h2 : chkB cl clo chi cd = false) : Calls Tryz.prog 8 #[.agg (heldC st he ls le lu lr D), clk cl clo chi cd, .int .i64 x] w fun e w' => e = .returned (.tuple #[.int .i64 0, .int .i64 1]) ∧ Below w.heap.size w w' := by
  have C1 := Lib.hid (fun W => held_any st he ls le lu lr D W hD)
  rw [decide_eq_true h1] at C1
  have C2 := Lib.hid (fun W => check_no cl clo chi cd W h2)
  clear h1 h2
  have BGh := Lib.hid (show BigR 28 (heldC st he ls le lu lr D) from big_held hD)
  obtain ⟨Vh, hVh⟩ : ∃ C, heldC st he ls le lu lr D = C := ⟨_, rfl⟩
  obtain ⟨G, hG⟩ : ∃ G, w.heap.size = G := ⟨_, rfl⟩
  have HG := Lib.hid hG
  have Kh := Lib.hid (show Blk ((w.alloc (.cells Vh 28)).alloc (.cells #[.int .i64 cl, .int .i64 clo, .int .i64 chi, .int .i64 cd] 32)) (G) 28 (heldC st he ls le lu lr D) from by rw [hVh]; exact (Blk.new' _ _ _ _ hG rfl).alloc _)
  have Kc := Lib.hid (show Blk ((w.alloc (.cells Vh 28)).alloc (.cells #[.int .i64 cl, .int .i64 clo, .int .i64 chi, .int .i64 cd] 32)) (G + 1) 32 #[.int .i64 cl, .int .i64 clo, .int .i64 chi, .int .i64 cd] from Blk.new' _ _ _ _ (by rw [World.size_alloc, hG]) rfl)
  have B := Lib.hid (show Below w.heap.size w ((w.alloc (.cells Vh 28)).alloc (.cells #[.int .i64 cl, .int .i64 clo, .int .i64 chi, .int .i64 cd] 32)) by (repeat' (first | (with_reducible exact Below.refl _ _) | (with_reducible assumption) | (with_reducible refine Below.alloc ?_ ?_ _) | (with_reducible refine Below.drew ?_) | (with_reducible refine below_dn ?_) | (with_reducible refine Below.setCell ?_ ?_ _) | (with_reducible exact Nat.le_refl _) | omega | (simp only [World.size_alloc, World.size_setCell, World.size_drew]; omega) | (simp; omega) | (simp; done))))
  try rw [hVh]
  have EVh := Lib.hid hVh
  clear hVh
  go_enter Tryz.func8, Tryz.ntmps8
  go_upto_region 1 with (fail)
  try rw [hG]
  generalize hw0 : ((w.alloc (.cells Vh 28)).alloc (.cells #[.int .i64 cl, .int .i64 clo, .int .i64 chi, .int .i64 cd] 32)) = w0 at Kh Kc B ⊢
  clear hw0 hG
  obtain ⟨bhc0, bhc1, bhc2⟩ := held_at Kh.out
  obtain ⟨bcc0, bcc1, bcc2, bcc3⟩ := four Kc.out
  go_wp2_with (first | (with_reducible refine Hs.wpList_load_all rfl 28 _ rfl (G) rfl 28 (heldC st he ls le lu lr D) _ (Blk.hs Kh.out) Tryz.underlying28 BGh.out.info ?_))
  refine (C1.out _).mono ?_
  rintro e w1 ⟨rfl, hb⟩
  replace Kh := Lib.hid (Kh.out.below hb Kh.out.lt)
  replace Kc := Lib.hid (Kc.out.below hb Kc.out.lt)
  replace B := Lib.hid (B.out.trans (hb.mono B.out.size))
  clear bhc0 bhc1 bhc2 bcc0 bcc1 bcc2 bcc3
  clear hb
  obtain ⟨bhc0, bhc1, bhc2⟩ := held_at Kh.out
  obtain ⟨bcc0, bcc1, bcc2, bcc3⟩ := four Kc.out
  go_wp2_with (first | (fail))
  refine (C2.out _).mono ?_
  rintro e w2 ⟨rfl, hb⟩
  replace Kh := Lib.hid (Kh.out.below hb Kh.out.lt)
  replace Kc := Lib.hid (Kc.out.below hb Kc.out.lt)
  replace B := Lib.hid (B.out.trans (hb.mono B.out.size))
  clear bhc0 bhc1 bhc2 bcc0 bcc1 bcc2 bcc3
  clear hb
  obtain ⟨bhc0, bhc1, bhc2⟩ := held_at Kh.out
  obtain ⟨bcc0, bcc1, bcc2, bcc3⟩ := four Kc.out
  go_wp2
  go_ret2
  exact ⟨rfl, B.out⟩
set_option maxRecDepth 100000 in
set_option maxHeartbeats 4000000 in
theorem worth_n3 (st he ls le lu lr : Int) (D : List Nat) (cl clo chi cd x : Int) (w : World) (hD : D.length = 16) (h1 : HeldOk st he lu) (h2 : OkClk cl clo chi cd) (h3 : ¬ (cl ≤ x ∧ x ≤ 2199023255552)) : Calls Tryz.prog 8 #[.agg (heldC st he ls le lu lr D), clk cl clo chi cd, .int .i64 x] w fun e w' => e = .returned (.tuple #[.int .i64 0, .int .i64 1]) ∧ Below w.heap.size w w' := by
  have C1 := Lib.hid (fun W => held_any st he ls le lu lr D W hD)
  rw [decide_eq_true h1] at C1
  have C2 := Lib.hid (fun W => check_yes cl clo chi cd W h2)
  have C3 := Lib.hid (fun W => within_no h3 W)
  clear h1 h2 h3
  have BGh := Lib.hid (show BigR 28 (heldC st he ls le lu lr D) from big_held hD)
  obtain ⟨Vh, hVh⟩ : ∃ C, heldC st he ls le lu lr D = C := ⟨_, rfl⟩
  obtain ⟨G, hG⟩ : ∃ G, w.heap.size = G := ⟨_, rfl⟩
  have HG := Lib.hid hG
  have Kh := Lib.hid (show Blk ((w.alloc (.cells Vh 28)).alloc (.cells #[.int .i64 cl, .int .i64 clo, .int .i64 chi, .int .i64 cd] 32)) (G) 28 (heldC st he ls le lu lr D) from by rw [hVh]; exact (Blk.new' _ _ _ _ hG rfl).alloc _)
  have Kc := Lib.hid (show Blk ((w.alloc (.cells Vh 28)).alloc (.cells #[.int .i64 cl, .int .i64 clo, .int .i64 chi, .int .i64 cd] 32)) (G + 1) 32 #[.int .i64 cl, .int .i64 clo, .int .i64 chi, .int .i64 cd] from Blk.new' _ _ _ _ (by rw [World.size_alloc, hG]) rfl)
  have B := Lib.hid (show Below w.heap.size w ((w.alloc (.cells Vh 28)).alloc (.cells #[.int .i64 cl, .int .i64 clo, .int .i64 chi, .int .i64 cd] 32)) by (repeat' (first | (with_reducible exact Below.refl _ _) | (with_reducible assumption) | (with_reducible refine Below.alloc ?_ ?_ _) | (with_reducible refine Below.drew ?_) | (with_reducible refine below_dn ?_) | (with_reducible refine Below.setCell ?_ ?_ _) | (with_reducible exact Nat.le_refl _) | omega | (simp only [World.size_alloc, World.size_setCell, World.size_drew]; omega) | (simp; omega) | (simp; done))))
  try rw [hVh]
  have EVh := Lib.hid hVh
  clear hVh
  go_enter Tryz.func8, Tryz.ntmps8
  go_upto_region 1 with (fail)
  try rw [hG]
  generalize hw0 : ((w.alloc (.cells Vh 28)).alloc (.cells #[.int .i64 cl, .int .i64 clo, .int .i64 chi, .int .i64 cd] 32)) = w0 at Kh Kc B ⊢
  clear hw0 hG
  obtain ⟨bhc0, bhc1, bhc2⟩ := held_at Kh.out
  obtain ⟨bcc0, bcc1, bcc2, bcc3⟩ := four Kc.out
  go_wp2_with (first | (with_reducible refine Hs.wpList_load_all rfl 28 _ rfl (G) rfl 28 (heldC st he ls le lu lr D) _ (Blk.hs Kh.out) Tryz.underlying28 BGh.out.info ?_))
  refine (C1.out _).mono ?_
  rintro e w1 ⟨rfl, hb⟩
  replace Kh := Lib.hid (Kh.out.below hb Kh.out.lt)
  replace Kc := Lib.hid (Kc.out.below hb Kc.out.lt)
  replace B := Lib.hid (B.out.trans (hb.mono B.out.size))
  clear bhc0 bhc1 bhc2 bcc0 bcc1 bcc2 bcc3
  clear hb
  obtain ⟨bhc0, bhc1, bhc2⟩ := held_at Kh.out
  obtain ⟨bcc0, bcc1, bcc2, bcc3⟩ := four Kc.out
  go_wp2_with (first | (fail))
  refine (C2.out _).mono ?_
  rintro e w2 ⟨rfl, hb⟩
  replace Kh := Lib.hid (Kh.out.below hb Kh.out.lt)
  replace Kc := Lib.hid (Kc.out.below hb Kc.out.lt)
  replace B := Lib.hid (B.out.trans (hb.mono B.out.size))
  clear bhc0 bhc1 bhc2 bcc0 bcc1 bcc2 bcc3
  clear hb
  obtain ⟨bhc0, bhc1, bhc2⟩ := held_at Kh.out
  obtain ⟨bcc0, bcc1, bcc2, bcc3⟩ := four Kc.out
  go_wp2_with (fail)
  refine (C3.out _).mono ?_
  rintro e wz ⟨rfl, rfl⟩
  go_wp2
  go_ret2
  exact ⟨rfl, B.out⟩
set_option maxRecDepth 100000 in
set_option maxHeartbeats 4000000 in
theorem worth_ok (st he ls le lu lr : Int) (D : List Nat) (cl clo chi cd x : Int) (w : World) (hD : D.length = 16) (h1 : HeldOk st he lu) (h2 : OkClk cl clo chi cd) (h3 : cl ≤ x ∧ x ≤ 2199023255552) : Calls Tryz.prog 8 #[.agg (heldC st he ls le lu lr D), clk cl clo chi cd, .int .i64 x] w fun e w' => e = .returned (.tuple #[.int .i64 (max 0 (untilF cl chi cd lu + 1 - x)), .int .i64 0]) ∧ Below w.heap.size w w' := by
  have C1 := Lib.hid (fun W => held_any st he ls le lu lr D W hD)
  rw [decide_eq_true h1] at C1
  have C2 := Lib.hid (fun W => check_yes cl clo chi cd W h2)
  have C3 := Lib.hid (fun W => within_yes h3 W)
  have C4 := Lib.hid (fun W => worth_in cl clo chi cd x lu W h2 h3.1 h3.2)
  obtain ⟨R, hR⟩ : ∃ R, max 0 (untilF cl chi cd lu + 1 - x) = R := ⟨_, rfl⟩
  rw [hR] at C4 ⊢
  clear hR
  clear h1 h2 h3
  have BGh := Lib.hid (show BigR 28 (heldC st he ls le lu lr D) from big_held hD)
  obtain ⟨Vh, hVh⟩ : ∃ C, heldC st he ls le lu lr D = C := ⟨_, rfl⟩
  obtain ⟨G, hG⟩ : ∃ G, w.heap.size = G := ⟨_, rfl⟩
  have HG := Lib.hid hG
  have Kh := Lib.hid (show Blk ((w.alloc (.cells Vh 28)).alloc (.cells #[.int .i64 cl, .int .i64 clo, .int .i64 chi, .int .i64 cd] 32)) (G) 28 (heldC st he ls le lu lr D) from by rw [hVh]; exact (Blk.new' _ _ _ _ hG rfl).alloc _)
  have Kc := Lib.hid (show Blk ((w.alloc (.cells Vh 28)).alloc (.cells #[.int .i64 cl, .int .i64 clo, .int .i64 chi, .int .i64 cd] 32)) (G + 1) 32 #[.int .i64 cl, .int .i64 clo, .int .i64 chi, .int .i64 cd] from Blk.new' _ _ _ _ (by rw [World.size_alloc, hG]) rfl)
  have B := Lib.hid (show Below w.heap.size w ((w.alloc (.cells Vh 28)).alloc (.cells #[.int .i64 cl, .int .i64 clo, .int .i64 chi, .int .i64 cd] 32)) by (repeat' (first | (with_reducible exact Below.refl _ _) | (with_reducible assumption) | (with_reducible refine Below.alloc ?_ ?_ _) | (with_reducible refine Below.drew ?_) | (with_reducible refine below_dn ?_) | (with_reducible refine Below.setCell ?_ ?_ _) | (with_reducible exact Nat.le_refl _) | omega | (simp only [World.size_alloc, World.size_setCell, World.size_drew]; omega) | (simp; omega) | (simp; done))))
  try rw [hVh]
  have EVh := Lib.hid hVh
  clear hVh
  go_enter Tryz.func8, Tryz.ntmps8
  go_upto_region 1 with (fail)
  try rw [hG]
  generalize hw0 : ((w.alloc (.cells Vh 28)).alloc (.cells #[.int .i64 cl, .int .i64 clo, .int .i64 chi, .int .i64 cd] 32)) = w0 at Kh Kc B ⊢
  clear hw0 hG
  obtain ⟨bhc0, bhc1, bhc2⟩ := held_at Kh.out
  obtain ⟨bcc0, bcc1, bcc2, bcc3⟩ := four Kc.out
  go_wp2_with (first | (with_reducible refine Hs.wpList_load_all rfl 28 _ rfl (G) rfl 28 (heldC st he ls le lu lr D) _ (Blk.hs Kh.out) Tryz.underlying28 BGh.out.info ?_))
  refine (C1.out _).mono ?_
  rintro e w1 ⟨rfl, hb⟩
  replace Kh := Lib.hid (Kh.out.below hb Kh.out.lt)
  replace Kc := Lib.hid (Kc.out.below hb Kc.out.lt)
  replace B := Lib.hid (B.out.trans (hb.mono B.out.size))
  clear bhc0 bhc1 bhc2 bcc0 bcc1 bcc2 bcc3
  clear hb
  obtain ⟨bhc0, bhc1, bhc2⟩ := held_at Kh.out
  obtain ⟨bcc0, bcc1, bcc2, bcc3⟩ := four Kc.out
  go_wp2_with (first | (fail))
  refine (C2.out _).mono ?_
  rintro e w2 ⟨rfl, hb⟩
  replace Kh := Lib.hid (Kh.out.below hb Kh.out.lt)
  replace Kc := Lib.hid (Kc.out.below hb Kc.out.lt)
  replace B := Lib.hid (B.out.trans (hb.mono B.out.size))
  clear bhc0 bhc1 bhc2 bcc0 bcc1 bcc2 bcc3
  clear hb
  obtain ⟨bhc0, bhc1, bhc2⟩ := held_at Kh.out
  obtain ⟨bcc0, bcc1, bcc2, bcc3⟩ := four Kc.out
  go_wp2_with (fail)
  refine (C3.out _).mono ?_
  rintro e wz ⟨rfl, rfl⟩
  go_wp2_with (fail)
  refine (C4.out _).mono ?_
  rintro e w3 ⟨rfl, hb⟩
  replace Kh := Lib.hid (Kh.out.below hb Kh.out.lt)
  replace Kc := Lib.hid (Kc.out.below hb Kc.out.lt)
  replace B := Lib.hid (B.out.trans (hb.mono B.out.size))
  clear bhc0 bhc1 bhc2 bcc0 bcc1 bcc2 bcc3
  clear hb
  obtain ⟨bhc0, bhc1, bhc2⟩ := held_at Kh.out
  obtain ⟨bcc0, bcc1, bcc2, bcc3⟩ := four Kc.out
  go_wp2
  go_ret2
  exact ⟨rfl, B.out⟩
theorem worth_err (st he ls le lu lr : Int) (D : List Nat) (cl clo chi cd x : Int) (w : World) (hD : D.length = 16) (h : ¬ (HeldOk st he lu ∧ OkClk cl clo chi cd ∧ cl ≤ x ∧ x ≤ 2199023255552)) : Calls Tryz.prog 8 #[.agg (heldC st he ls le lu lr D), clk cl clo chi cd, .int .i64 x] w fun e w' => e = .returned (.tuple #[.int .i64 0, .int .i64 1]) ∧ Below w.heap.size w w' := by
  by_cases h1 : HeldOk st he lu
  · by_cases h2 : OkClk cl clo chi cd
    · exact worth_n3 st he ls le lu lr D cl clo chi cd x w hD h1 h2 (fun q => h ⟨h1, h2, q⟩)
    · exact worth_n2 st he ls le lu lr D cl clo chi cd x w hD h1 (decide_eq_false h2)
  · exact worth_n1 st he ls le lu lr D cl clo chi cd x w hD h1
theorem until_find (hi d t : Int) (h0 : rdHi hi d 0 < t) (m : Nat) : ∃ k : Nat, k ≤ m ∧ rdHi hi d k < t ∧ (k < m → t ≤ rdHi hi d (k + 1)) := by
  induction m with
  | zero => exact ⟨0, Nat.le_refl _, h0, fun h => absurd h (by omega)⟩
  | succ m ih =>
    by_cases h : rdHi hi d ((m : Int) + 1) < t
    · exact ⟨m + 1, Nat.le_refl _, by simpa using h, fun h => absurd h (by omega)⟩
    · obtain ⟨k, h1, h2, h3⟩ := ih
      refine ⟨k, by omega, h2, fun hk => ?_⟩
      by_cases e : k < m
      · exact h3 e
      · obtain rfl : k = m := by omega
        omega
theorem until_has (l hi d t : Int) (hd : d ≤ 100000) (hl : l ≤ 2199023255552) : ∃ u, UntilIs l hi d t u := by
  by_cases h0 : rdHi hi d 0 < t
  · obtain ⟨k, h1, h2, h3⟩ := until_find hi d t h0 (2199023255552 - l).toNat
    refine ⟨l + k, .inr ⟨by omega, by omega, by rw [show l + (k : Int) - l = k by omega]; exact h2, fun h => ?_⟩⟩
    rw [show l + (k : Int) + 1 - l = k + 1 by omega]
    exact h3 (by omega)
  · refine ⟨-1, .inl ⟨rfl, fun x h1 h2 => ?_⟩⟩
    have := rdHi_mono hi d 0 (x - l) hd (by omega)
    omega
theorem rd_le (lo hi d n : Int) (h : 0 ≤ lo ∧ lo ≤ hi) (hd : 0 ≤ d ∧ d ≤ 100000) (hn : 0 ≤ n) : 0 ≤ rdLo lo d n ∧ rdLo lo d n ≤ rdHi hi d n ∧ rdHi hi d n ≤ 1099511627776 := by
  have h1 := least_nonneg d n hd.1
  have h2 : least n d ≤ (n + 1) * 1000000 / (1000000 - d) := by
    unfold least
    split
    · rename_i hp
      have e1 : ((n - 1) * 1000000 + (1000000 + d) - 1) / (1000000 + d) ≤ n := by
        have : (n - 1) * 1000000 + (1000000 + d) - 1 < (n + 1) * (1000000 + d) := by
          have e : (n + 1) * (1000000 + d) = n * 1000000 + 1000000 + (n + 1) * d := by rw [Int.mul_add, Int.add_mul]; omega
          have := Int.mul_nonneg (show 0 ≤ n + 1 by omega) hd.1
          have e3 : (n + 1) * d = n * d + d := by rw [Int.add_mul, Int.one_mul]
          have := Int.mul_nonneg hn hd.1
          omega
        have := Int.ediv_lt_of_lt_mul (show 0 < 1000000 + d by omega) this
        omega
      have e2 : n ≤ (n + 1) * 1000000 / (1000000 - d) := by
        refine Int.le_ediv_of_mul_le (by omega) ?_
        have e : n * (1000000 - d) = n * 1000000 - n * d := by rw [Int.mul_sub]
        have := Int.mul_nonneg hn hd.1
        omega
      omega
    · exact Int.ediv_nonneg (by omega) (by omega)
  unfold rdLo rdHi
  omega
/-- MayServe in a period that was read: it is so for as long as the lease is worth. -/
theorem serve_read (st he ls le lu lr : Int) (D : List Nat) (cl clo chi cd x y : Int) (w : World) (hD : D.length = 16) (h1 : HeldOk st he lu) (h2 : OkClk cl clo chi cd) (h3 : cl ≤ x) (hx : x ≤ y) (hy : y ≤ 2199023255552) :
    Calls Tryz.prog 12 #[.agg (heldC st he ls le lu lr D), per (rdLo clo cd (y - cl)) (rdHi chi cd (y - cl))] w fun e w' => e = .returned (.bool (decide (y - x < max 0 (untilF cl chi cd lu + 1 - x)))) ∧ Below w.heap.size w w' := by
  have h := serve_any st he ls le lu lr (rdLo clo cd (y - cl)) (rdHi chi cd (y - cl)) D w hD
  have hr := rd_le clo chi cd (y - cl) ⟨h2.2.2.1, h2.2.2.2.1⟩ ⟨h2.2.2.2.2.2.1, h2.2.2.2.2.2.2⟩ (by omega)
  have hu : UntilIs cl chi cd lu (untilF cl chi cd lu) := by
    obtain ⟨u, hu⟩ := until_has cl chi cd lu h2.2.2.2.2.2.2 h2.2.1
    exact untilF_is hu
  have e : serveB st he lu (rdLo clo cd (y - cl)) (rdHi chi cd (y - cl)) = decide (y - x < max 0 (untilF cl chi cd lu + 1 - x)) := by
    unfold serveB
    rw [decide_eq_true h1, show perB (rdLo clo cd (y - cl)) (rdHi chi cd (y - cl)) = true from decide_eq_true hr]
    simp only [Bool.true_and]
    apply decide_eq_decide.mpr
    have hl0 := h2.1
    rcases hu with ⟨u1, u2⟩ | ⟨u1, u2, u3, u4⟩
    · have := u2 y (by omega) hy
      rw [u1]; omega
    · obtain ⟨u, hu⟩ : ∃ u, untilF cl chi cd lu = u := ⟨_, rfl⟩
      rw [hu] at u1 u2 u3 u4 ⊢
      constructor
      · intro q
        by_cases c : y ≤ u
        · omega
        · have := u4 (by omega)
          have := rdHi_mono chi cd (u + 1 - cl) (y - cl) h2.2.2.2.2.2.2 (by omega)
          omega
      · intro q
        have := rdHi_mono chi cd (y - cl) (u - cl) h2.2.2.2.2.2.2 (by omega)
        omega
  rw [e] at h
  exact h
end Le
end Go.Proofs.YteblnmhaohbkkaaGreatDoor
