import Derived.Test.YteblnmhaohbkkaaDoorRLeI
namespace Go.Proofs.YteblnmhaohbkkaaDoor
set_option linter.unusedVariables false
set_option linter.unusedSimpArgs false
set_option linter.unusedSectionVars false
namespace Le
open Go.RowKit
set_option maxRecDepth 100000 in
set_option maxHeartbeats 2000000 in
theorem ins_grow (g cap : Nat) (cur : Array Value) (l : List Gr) (i : Nat) (x : Gr) (vb B : Nat) (w : World) (hg : w.heap[g]? = some (.cells cur 88 (0, 0))) (hBg : B ≤ w.heap.size) (hncap : l.length ≤ cap) (hsz : cur.size = cap * 3) (htk : cur.toList.take (l.length * 3) = l.flatMap encG)
    (hi : i < l.length) (hroom : cap < l.length + 1) (hm : l.length ≤ 1000000) (hx : Blk w vb 88 (encG x).toArray) :
    Calls Tryd.prog 55 #[.slice (some ⟨g, 0, none⟩) l.length cap, .int .i64 (i : Int), .slice (some ⟨vb, 0, none⟩) 1 1] w fun e w' => ∃ v', e = .returned v' ∧ OwnA w' B v' (insL l i x) ∧ Below B w w' := by
  obtain ⟨i0, hi0, hz0, hzs, hzb⟩ := info_parts infoA
  have hgw : g < w.heap.size := (Array.getElem?_eq_some_iff.1 hg).1
  have hvw : vb < w.heap.size := hx.lt
  have hR : ∀ j u, ((l.drop i).flatMap encG)[j]? = some u → w.cell? ⟨g, i * 3 + j, none⟩ = some u := fun j u hu => row_cells encG_len hg htk i j u hu
  have hR0 : ∀ j u, ((l.drop 0).flatMap encG)[j]? = some u → w.cell? ⟨g, 0 * 3 + j, none⟩ = some u := fun j u hu => row_cells encG_len hg htk 0 j u hu
  have hAl : ((l.take i).flatMap encG).length = i * 3 := by rw [flat_len encG_len, List.length_take, Nat.min_eq_left (by omega)]
  have hDl : ((l.drop i).flatMap encG).length = (l.length - i) * 3 := by rw [flat_len encG_len, List.length_drop]
  have hsp : l.flatMap encG = (l.take i).flatMap encG ++ (l.drop i).flatMap encG := by rw [← List.flatMap_append, List.take_append_drop]
  have hD1 : ∀ u ∈ (l.drop i).flatMap encG, u.oneCell' = true := fun u hu => by obtain ⟨y, _, hy⟩ := List.mem_flatMap.1 hu; exact encG_one y u hy
  have hins : (insL l i x).flatMap encG = (l.take i).flatMap encG ++ (encG x ++ (l.drop i).flatMap encG) := by unfold insL; rw [List.flatMap_append, List.flatMap_cons]
  have hil := insL_len l i x (by omega)
  have hold : (Builtin.firstCells i0.size i (.slice (some ⟨g, 0, none⟩) i cap)).run Tryd.prog w.drew = .ok ((l.take i).flatMap encG).toArray w.drew := by
    rw [hzs]
    exact run_firstCells_some w.drew 3 i ⟨g, 0, none⟩ i cap _ hAl (fun j v hj => by
      rw [add_off, Nat.zero_add]
      have := hR0 j v (by rw [List.drop_zero, hsp, List.getElem?_append_left (by rw [hAl]; have := (List.getElem?_eq_some_iff.1 hj).1; rwa [hAl] at this)]; exact hj)
      rwa [Nat.zero_mul, Nat.zero_add] at this)
  obtain ⟨A, hA⟩ : ∃ A, (l.take i).flatMap encG = A := ⟨_, rfl⟩
  obtain ⟨D, hD⟩ : ∃ D, (l.drop i).flatMap encG = D := ⟨_, rfl⟩
  rw [hA] at hAl hold hins
  rw [hD] at hDl hD1 hins hR
  have HIL := Lib.hid hil; have HINS := Lib.hid hins
  obtain ⟨N, hN⟩ : ∃ N, l.length = N := ⟨_, rfl⟩
  rw [hN] at hi hroom hm hDl hncap HIL ⊢
  have hkk : ((N + 1 - i : Nat) : Int) = (N : Int) + 1 - (i : Int) := by omega
  have hrz := Lib.run_append_grow_zeros (P := Tryd.prog) w 22 3 22 88 i0 _ .i64 .i64 Tryd.underlying22 Tryd.underlying3 hi0 hz0 (some ⟨g, 0, none⟩) i cap A hold (N + 1 - i) (by omega) (by rw [hzs]; decide) (by omega) (by omega) (by rw [hzb]; omega) (by rw [hzb]; exact growslice_fits (by omega) (by omega))
  rw [show i + (N + 1 - i) = N + 1 by omega, hkk] at hrz
  have hG1 := grownCap_ge w (N + 1) cap 88
  have hG2 := grownCap_le_maxLen w (N + 1) cap 88 (by unfold maxLen; omega)
  obtain ⟨G, hG⟩ : ∃ G, grownCap w (N + 1) cap 88 = G := ⟨_, rfl⟩
  rw [hG] at hrz hG1 hG2
  obtain ⟨ROW, hROW⟩ : ∃ ROW : Array Value, A.toArray ++ Builtin.zeroCells (Value.agg #[.int .i64 0, .int .i64 0, .int .i64 0]).cells (N + 1 - i) ++ Builtin.zeroCells (Value.agg #[.int .i64 0, .int .i64 0, .int .i64 0]).cells (G - (N + 1)) = ROW := ⟨_, rfl⟩
  rw [hROW] at hrz
  have hRsz : ROW.size = G * 3 := by
    rw [← hROW, Array.size_append, Array.size_append, size_zeroCells, size_zeroCells, List.size_toArray, hAl]
    simp [Value.cells]; omega
  have hRA : ROW.toList.take (i * 3) = A := by
    rw [← hROW, Array.toList_append, Array.toList_append, List.append_assoc, ← hAl]
    exact List.take_left
  obtain ⟨Z, hZ⟩ : ∃ Z, w.heap.size = Z := ⟨_, rfl⟩
  have hZb : B ≤ Z := by omega
  rw [hZ] at hrz hgw hvw
  obtain ⟨w1, hw1⟩ : ∃ w1, w.drew.alloc (.cells ROW 88) = w1 := ⟨_, rfl⟩
  rw [hw1] at hrz
  have hg1 : w1.heap[Z]? = some (.cells ROW 88 (0, 0)) := by rw [← hw1, ← hZ]; exact heap_alloc_new w.drew _
  have B1 : Below B w w1 := by rw [← hw1]; exact ((Below.refl _ _).drew).alloc hBg _
  have hx1 : Blk w1 vb 88 (encG x).toArray := by rw [← hw1]; exact Blk.alloc (show Blk w.drew vb _ _ from hx) _
  have hD1c : ∀ j u, D[j]? = some u → w1.cell? ⟨g, i * 3 + j, none⟩ = some u := fun j u hu => by rw [← hw1, World.cell?_alloc_past (w := w.drew) _ g _ (by rw [← hZ] at hgw; exact hgw)]; exact hR j u hu
  have hmin2 : Nat.min 1 (N + 1 - i) = 1 := Nat.min_eq_left (by omega)
  have HC2 := run_copy_rowK (P := Tryd.prog) w1 22 22 3 88 3 Z (i * 3) (N + 1 - i) (G - i) ⟨vb, 0, none⟩ 1 1 ROW 88 (encG x) Tryd.underlying22 sizeA hg1 (by rw [hmin2]; rfl)
    (fun j u hu => by rw [add_off, Nat.zero_add, hx1.cell]; simpa using hu) (by rw [hRsz, encG_len]; omega) (encG_one x)
  rw [hmin2] at HC2
  have hl1 : (splice ROW.toList (i * 3) (encG x)).length = G * 3 := by rw [splice_len _ _ _ (by rw [encG_len, Array.length_toList, hRsz]; omega), Array.length_toList, hRsz]
  have hfin := splice_two' ROW.toList A (encG x) D (i * 3) hRA hAl (by rw [encG_len, hDl, Array.length_toList, hRsz]; omega)
  rw [encG_len, hDl, ← HINS.out, show i * 3 + 3 = (i + 1) * 3 by omega, show (i + 1) * 3 + (N - i) * 3 = (N + 1) * 3 by omega] at hfin
  have hl2 : (splice (splice ROW.toList (i * 3) (encG x)) ((i + 1) * 3) D).length = G * 3 := by rw [splice_len _ _ _ (by rw [hDl, hl1]; omega), hl1]
  have hg2 : (w1.setRow Z (splice ROW.toList (i * 3) (encG x)).toArray).heap[Z]? = some (.cells (splice ROW.toList (i * 3) (encG x)).toArray 88 (0, 0)) := setRow_heap w1 Z _ _ _ _ hg1
  obtain ⟨X1, hX1⟩ : ∃ X1, splice ROW.toList (i * 3) (encG x) = X1 := ⟨_, rfl⟩
  rw [hX1] at hg2 hl1 hfin hl2 HC2
  obtain ⟨w2, hw2⟩ : ∃ w2, w1.setRow Z X1.toArray = w2 := ⟨_, rfl⟩
  rw [hw2] at hg2 HC2
  have B2 : Below B w w2 := by rw [← hw2]; exact below_setRow B1 hZb _
  have hD2c : ∀ j u, D[j]? = some u → w2.cell? ⟨g, i * 3 + j, none⟩ = some u := fun j u hu => by
    have e : w2.heap[g]? = w1.heap[g]? := by rw [← hw2]; exact setRow_other w1 Z g _ (by omega)
    have := hD1c j u hu
    unfold World.cell? at this ⊢
    simp only at this ⊢
    rw [e]; exact this
  have hmin : Nat.min (N - i) (N - i) = N - i := Nat.min_self _
  have HC3 := run_copy_rowK (P := Tryd.prog) w2.drew 22 22 3 88 3 Z ((i + 1) * 3) (N - i) (G - (i + 1)) ⟨g, i * 3, none⟩ (N - i) (cap - i) X1.toArray 88 D Tryd.underlying22 sizeA hg2 (by rw [hmin]; exact hDl)
    (fun j u hu => by rw [add_off]; exact hD2c j u hu) (by rw [List.size_toArray, hl1, hDl]; omega) hD1
  rw [hmin] at HC3
  simp only [List.toList_toArray] at HC3
  have hg3 : (w2.drew.setRow Z (splice X1 ((i + 1) * 3) D).toArray).heap[Z]? = some (.cells (splice X1 ((i + 1) * 3) D).toArray 88 (0, 0)) := setRow_heap w2.drew Z _ _ _ _ hg2
  obtain ⟨w3, hw3⟩ : ∃ w3, w2.drew.setRow Z (splice X1 ((i + 1) * 3) D).toArray = w3 := ⟨_, rfl⟩
  rw [hw3] at hg3 HC3
  have B3 := Lib.hid (show Below B w w3 by rw [← hw3]; exact below_setRow (Below.drew B2) hZb _)
  have OW := Lib.hid (OwnR.of_row (enc := encG) (l := insL l i x) encG_len hZb hg3 (by rw [HIL.out]; exact hG1) hG2 (by rw [List.size_toArray]; exact hl2) (by rw [List.toList_toArray, HIL.out]; exact hfin))
  rw [HIL.out] at OW
  have H1 := Lib.hid hrz; have H2 := Lib.hid HC2; have H3 := Lib.hid HC3
  have hc63 : cap ≤ 9223372036854775807 := by omega
  have hG63 : G ≤ 9223372036854775807 := by unfold maxLen at hG2; omega
  clear HC2 HC3 hrz hw1 hw2 hw3 hX1 hg hg1 hg2 hg3 hl1 hl2 hfin hx hx1 hD1c hD2c hD1 hmin hmin2 hR hR0 hsp hins hil hold hROW hRsz hRA hG hG2 hA hD hN hAl hDl hkk B1 B2 hZ hzs hzb hi0 hz0 htk hsz HINS HIL
  have hz2 : ¬ ((i : Int) = (N : Int)) := by omega
  have hb2 : ¬ (G = i + 1) := by omega
  have hb4 : ¬ (G = i) := by omega
  have hb6 : ¬ (cap = i) := by omega
  have hin : i ≤ N := by omega
  have hw1 : IntKind.i64.wrap ((i : Int) + 1) = (i : Int) + 1 := by rw [IntKind.wrap_i64]; omega
  have hb1 : (0 : Int) ≤ (i : Int) + 1 := by omega
  have htn : ((i : Int) + 1).toNat = i + 1 := by omega
  have hb3 : (i : Int) ≤ (N : Int) + 1 := by omega
  have hb5 : (i : Int) + 1 ≤ (N : Int) + 1 := by omega
  have hb7 : (i : Int) ≤ (N : Int) := by omega
  go_enter Tryd.func55, Tryd.ntmps55
  go_wp2_with (first
    | (at_builtin; refine wpList_app_run rfl _ _ 22 3 rfl _ _ _ w1 rfl rfl H1.out ?_)
    | (refine wpList_copy_run rfl (.tmp 43) (.tmp 44) 22 22 rfl _ _ _ w2 rfl rfl H2.out ?_))
  go_region_law (refine step_copy_run rfl (.tmp 50) (.tmp 53) 22 22 rfl _ _ _ w3 (by simp [Act.eval, Act.put]) (by simp [Act.eval, Act.put]) H3.out ?_)
  all_goals
    go_wp2
    go_ret
    exact ⟨_, rfl, OW.out, B3.out⟩
theorem ins_any (v : Value) (l : List Gr) (i : Nat) (x : Gr) (vb B : Nat) (w : World) (hown : OwnA w B v l) (hi : i ≤ l.length) (hm : l.length ≤ 1000000) (hB : B ≤ w.heap.size) (hx : Blk w vb 88 (encG x).toArray) (hvb : ∀ k, v.ownBlock = some k → vb ≠ k) :
    Calls Tryd.prog 55 #[v, .int .i64 (i : Int), .slice (some ⟨vb, 0, none⟩) 1 1] w fun e w' => ∃ v', e = .returned v' ∧ OwnA w' B v' (insL l i x) ∧ Below B w w' := by
  rcases Nat.eq_or_lt_of_le hi with rfl | hlt
  · exact ins_end v l x vb B w hown hm hB hx
  · obtain ⟨g, cap, cur, rfl, hBg, hnc, hcm, hg, hsz, htk⟩ := hown.row (by omega)
    by_cases hr : l.length + 1 ≤ cap
    · exact ins_shift g cap cur l i x vb B w hg hBg hcm hsz htk hlt hr hm hx (hvb g rfl)
    · exact ins_grow g cap cur l i x vb B w hg hB hnc hsz htk hlt (by omega) hm hx
end Le
end Go.Proofs.YteblnmhaohbkkaaDoor
