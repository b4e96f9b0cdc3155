import Derived.Test.YtcgdhankllphgaaRY2
import Derived.Deep.RegionLaw
namespace Go.Proofs.Ytcgdhankllphgaa
set_option linter.unusedVariables false
set_option linter.unusedSimpArgs false
set_option linter.unusedSectionVars false
section
namespace Co
open Go.RowKit
theorem splice_two {α : Type} (X A E D : List α) (p : Nat) (hA : X.take p = A) (hp : A.length = p) (hX : p + E.length + D.length ≤ X.length) :
    (splice (splice X (p + E.length) D) p E).take (p + E.length + D.length) = A ++ (E ++ D) := by
  have h1 : (X.take (p + E.length)).take p = A := by rw [List.take_take, Nat.min_eq_left (by omega)]; exact hA
  have h2 : (splice X (p + E.length) D).take p = A := by
    unfold splice
    rw [List.take_append_of_le_length (by simp; omega)]
    exact h1
  have h3 : (splice X (p + E.length) D).drop (p + E.length) = D ++ X.drop (p + E.length + D.length) := by
    unfold splice
    rw [List.drop_left' (by simp; omega)]
  have h4 : splice (splice X (p + E.length) D) p E = (A ++ (E ++ D)) ++ X.drop (p + E.length + D.length) := by
    have e : splice (splice X (p + E.length) D) p E = (splice X (p + E.length) D).take p ++ (E ++ (splice X (p + E.length) D).drop (p + E.length)) := rfl
    rw [e, h2, h3]; simp
  rw [h4, List.take_left' (by simp; omega)]
theorem splice_two' {α : Type} (X A E D : List α) (p : Nat) (hA : X.take p = A) (hp : A.length = p) (hX : p + E.length + D.length ≤ X.length) :
    (splice (splice X p E) (p + E.length) D).take (p + E.length + D.length) = A ++ (E ++ D) := by
  have h1 : splice X p E = (A ++ E) ++ X.drop (p + E.length) := by unfold splice; rw [hA]; simp
  have h4 : splice (splice X p E) (p + E.length) D = (A ++ (E ++ D)) ++ (splice X p E).drop (p + E.length + D.length) := by
    have e : splice (splice X p E) (p + E.length) D = (splice X p E).take (p + E.length) ++ (D ++ (splice X p E).drop (p + E.length + D.length)) := rfl
    have h5 : (splice X p E).take (p + E.length) = A ++ E := by rw [h1, List.take_left' (by simp; omega)]
    rw [e, h5]; simp
  rw [h4, List.take_left' (by simp; omega)]
theorem splice_len {α : Type} (X : List α) (p : Nat) (E : List α) (h : p + E.length ≤ X.length) : (splice X p E).length = X.length := length_splice X p E h
set_option maxRecDepth 100000 in
set_option maxHeartbeats 2000000 in
theorem ins_shift (g cap : Nat) (cur : Array Value) (l : List Rw) (i : Nat) (x : Rw) (vb B : Nat) (w : World) (hg : w.heap[g]? = some (.cells cur 89 (0, 0))) (hBg : B ≤ g) (hcap : cap ≤ maxLen) (hsz : cur.size = cap * 4) (htk : cur.toList.take (l.length * 4) = l.flatMap encR)
    (hi : i < l.length) (hroom : l.length + 1 ≤ cap) (hm : l.length ≤ 1000000) (hx : Blk w vb 89 (encR x).toArray) (hvg : vb ≠ g) :
    Calls Try.prog 78 #[.slice (some ⟨g, 0, none⟩) l.length cap, .int .i64 (i : Int), .slice (some ⟨vb, 0, none⟩) 1 1] w fun e w' => ∃ v', e = .returned v' ∧ OwnA w' B v' (insL l i x) ∧ Below B w w' := by
  have HX := Lib.hid hx
  have hcl : cur.toList.length = cap * 4 := by rw [Array.length_toList]; exact hsz
  have HR := Lib.hid (fun j u hu => row_cells encR_len hg htk i j u hu)
  have hAl : ((l.take i).flatMap encR).length = i * 4 := by rw [flat_len encR_len, List.length_take, Nat.min_eq_left (by omega)]
  have hDl : ((l.drop i).flatMap encR).length = (l.length - i) * 4 := by rw [flat_len encR_len, List.length_drop]
  have hsp : l.flatMap encR = (l.take i).flatMap encR ++ (l.drop i).flatMap encR := by rw [← List.flatMap_append, List.take_append_drop]
  have htA : cur.toList.take (i * 4) = (l.take i).flatMap encR := by
    have : (cur.toList.take (l.length * 4)).take (i * 4) = (l.take i).flatMap encR := by rw [htk, hsp, List.take_left' hAl]
    rw [List.take_take, Nat.min_eq_left (by omega)] at this; exact this
  have hD1 : ∀ u ∈ (l.drop i).flatMap encR, u.oneCell' = true := fun u hu => by obtain ⟨y, _, hy⟩ := List.mem_flatMap.1 hu; exact encR_one y u hy
  have hE1 : ∀ u ∈ encR x, u.oneCell' = true := encR_one x
  have hfin := splice_two cur.toList ((l.take i).flatMap encR) (encR x) ((l.drop i).flatMap encR) (i * 4) htA hAl (by rw [encR_len, hDl, hcl]; omega)
  rw [encR_len, hDl] at hfin
  have hins : (insL l i x).flatMap encR = (l.take i).flatMap encR ++ (encR x ++ (l.drop i).flatMap encR) := by unfold insL; rw [List.flatMap_append, List.flatMap_cons]
  rw [← hins, show i * 4 + 4 = (i + 1) * 4 by omega] at hfin
  have hl1 : (splice cur.toList ((i + 1) * 4) ((l.drop i).flatMap encR)).length = cap * 4 := by rw [splice_len _ _ _ (by rw [hDl, hcl]; omega), hcl]
  have hl2 : (splice (splice cur.toList ((i + 1) * 4) ((l.drop i).flatMap encR)) (i * 4) (encR x)).length = cap * 4 := by rw [splice_len _ _ _ (by rw [encR_len, hl1]; omega), hl1]
  have hil := insL_len l i x (by omega)
  have HIL := Lib.hid hil
  have hov : ∀ lb cb, (callFunc 86 #[.slice (some ⟨vb, 0, none⟩) 1 1, .slice (some ⟨g, (i + 1) * 4, none⟩) lb cb]).run Try.prog w = .ok (.value (.bool false)) w := fun lb cb => by
    rw [run_callFunc_extern (fn := Try.f86) (by kernel_rfl) (by kernel_rfl) (by kernel_rfl) (by kernel_rfl) (e := Extern.SlicesOverlaps.overlaps #[43, 43] #[4]) (by kernel_rfl),
      Lib.run_overlaps_apart w 43 4 89 Try.underlying43 4 (fun W => by simp [sizeOf, typeInfo]; rfl) ⟨vb, 0, none⟩ ⟨g, (i + 1) * 4, none⟩ 1 1 lb cb hvg 89 89 4 cur.size
        (by unfold World.shape?; rw [show w.heap[vb]? = _ from hx]; rfl) (by unfold World.shape?; rw [hg]) (by rw [hsz]; omega) (hx.frozen 0) (hx.frozen 4)]
    rfl
  obtain ⟨D, hD⟩ : ∃ D, (l.drop i).flatMap encR = D := ⟨_, rfl⟩
  rw [hD] at HR hDl hD1 hfin hl1 hl2
  obtain ⟨N, hN⟩ : ∃ N, l.length = N := ⟨_, rfl⟩
  rw [hN] at hi hroom hm hDl hfin hil HIL ⊢
  have HL := Lib.hid hl1; have HL2 := Lib.hid hl2; have HF := Lib.hid hfin; have HDL := Lib.hid hDl; have HG := Lib.hid hg; have HD1 := Lib.hid hD1; have HS := Lib.hid hsz
  have hc63 : cap ≤ 9223372036854775807 := by unfold maxLen at hcap; omega
  have hz2 : ¬ ((i : Int) = (N : Int)) := by omega
  have hb2 : ¬ (cap = i + 1) := by omega
  have hb4 : ¬ (cap = i) := by omega
  have hin : i ≤ N := by omega
  have HC := Lib.hid hcap
  clear hcl hx hAl hsp htA hins hl1 hl2 hil hD hN hD1 hfin hDl hg hsz htk hcap hE1
  have hmin : Nat.min (N + 1 - i) (N - i) = N - i := Nat.min_eq_right (by omega)
  have hmin2 : Nat.min 1 (N + 1 - i) = 1 := Nat.min_eq_left (by omega)
  have HC1 := Lib.hid (run_copy_rowK (P := Try.prog) w.drew 43 43 3 89 4 g ((i + 1) * 4) (N - i) (cap - (i + 1)) ⟨g, i * 4, none⟩ (N + 1 - i) (cap - i) cur 89 D Try.underlying43 sizeA HG.out (by rw [hmin]; exact HDL.out)
    (fun j u hu => by rw [add_off]; exact HR.out j u hu) (by rw [HDL.out, HS.out]; omega) HD1.out)
  have hg1 : (w.drew.setRow g (splice cur.toList ((i + 1) * 4) D).toArray).heap[g]? = some (.cells (splice cur.toList ((i + 1) * 4) D).toArray 89 (0, 0)) := setRow_heap w.drew g _ _ _ _ HG.out
  obtain ⟨X1, hX1⟩ : ∃ X1, splice cur.toList ((i + 1) * 4) D = X1 := ⟨_, rfl⟩
  rw [hX1] at HC1 hg1 HF HL HL2
  have hx1 : Blk (w.drew.setRow g X1.toArray) vb 89 (encR x).toArray := Blk.rowfar (show Blk w.drew vb _ _ from HX.out) hvg _
  obtain ⟨w1, hw1⟩ : ∃ w1, w.drew.setRow g X1.toArray = w1 := ⟨_, rfl⟩
  have B1 := Lib.hid (show Below B w w1 by rw [← hw1]; exact below_setRow ((Below.refl _ _).drew) hBg _)
  rw [hw1] at HC1 hg1 hx1
  have HC2 := Lib.hid (run_copy_rowK (P := Try.prog) w1 43 43 3 89 4 g (i * 4) (N + 1 - i) (cap - i) ⟨vb, 0, none⟩ 1 1 X1.toArray 89 (encR x) Try.underlying43 sizeA hg1 (by rw [hmin2]; rfl)
    (fun j u hu => by rw [add_off, Nat.zero_add, hx1.cell]; simpa using hu) (by rw [List.size_toArray, HL.out, encR_len]; omega) (encR_one x))
  have hg2 : (w1.setRow g (splice X1 (i * 4) (encR x)).toArray).heap[g]? = some (.cells (splice X1 (i * 4) (encR x)).toArray 89 (0, 0)) := setRow_heap w1 g _ _ _ _ hg1
  have OW := Lib.hid (OwnR.of_row (enc := encR) (l := insL l i x) encR_len hBg hg2 (by rw [HIL.out]; exact hroom) HC.out (by rw [List.size_toArray]; exact HL2.out) (by rw [List.toList_toArray, HIL.out]; have := HF.out; rw [show (i + 1) * 4 + (N - i) * 4 = (N + 1) * 4 by omega] at this; exact this))
  rw [HIL.out] at OW
  obtain ⟨w2, hw2⟩ : ∃ w2, w1.setRow g (splice X1 (i * 4) (encR x)).toArray = w2 := ⟨_, rfl⟩
  have B2 := Lib.hid (show Below B w w2 by rw [← hw2]; exact below_setRow B1.out hBg _)
  simp only [List.toList_toArray] at HC2
  rw [hw2] at HC2 OW
  rw [hmin] at HC1; rw [hmin2] at HC2
  clear hmin hmin2 hX1 hw1 hw2 hg1 hg2 hx1
  have hw1 : IntKind.i64.wrap ((i : Int) + 1) = (i : Int) + 1 := by rw [IntKind.wrap_i64]; omega
  have hb1 : (0 : Int) ≤ (i : Int) + 1 := by omega
  have htn : ((i : Int) + 1).toNat = i + 1 := by omega
  have hb3 : (i : Int) ≤ (N : Int) + 1 := by omega
  have hb5 : (i : Int) + 1 ≤ (N : Int) + 1 := by omega
  go_enter Try.func78, Try.ntmps78
  go_wp2_with (simp only [hov])
  go_region_law (refine step_copy_run rfl (.tmp 73) (.tmp 76) 43 43 rfl _ _ _ w1 (by simp [Act.eval, Act.put]) (by simp [Act.eval, Act.put]) HC1.out ?_)
  all_goals
    go_wp2_with (refine wpList_copy_run rfl (.tmp 80) (.tmp 81) 43 43 rfl _ _ _ w2 rfl rfl HC2.out ?_)
    go_ret
    exact ⟨_, rfl, OW.out, B2.out⟩
end Co
end
section
namespace Co
open Go.RowKit
set_option maxRecDepth 100000 in
set_option maxHeartbeats 2000000 in
theorem ins_grow (g cap : Nat) (cur : Array Value) (l : List Rw) (i : Nat) (x : Rw) (vb B : Nat) (w : World) (hg : w.heap[g]? = some (.cells cur 89 (0, 0))) (hBg : B ≤ w.heap.size) (hncap : l.length ≤ cap) (hsz : cur.size = cap * 4) (htk : cur.toList.take (l.length * 4) = l.flatMap encR)
    (hi : i < l.length) (hroom : cap < l.length + 1) (hm : l.length ≤ 1000000) (hx : Blk w vb 89 (encR x).toArray) :
    Calls Try.prog 78 #[.slice (some ⟨g, 0, none⟩) l.length cap, .int .i64 (i : Int), .slice (some ⟨vb, 0, none⟩) 1 1] w fun e w' => ∃ v', e = .returned v' ∧ OwnA w' B v' (insL l i x) ∧ Below B w w' := by
  obtain ⟨i0, hi0, hz0, hzs, hzb⟩ := info_parts infoA
  have hgw : g < w.heap.size := (Array.getElem?_eq_some_iff.1 hg).1
  have hvw : vb < w.heap.size := hx.lt
  have hR : ∀ j u, ((l.drop i).flatMap encR)[j]? = some u → w.cell? ⟨g, i * 4 + j, none⟩ = some u := fun j u hu => row_cells encR_len hg htk i j u hu
  have hR0 : ∀ j u, ((l.drop 0).flatMap encR)[j]? = some u → w.cell? ⟨g, 0 * 4 + j, none⟩ = some u := fun j u hu => row_cells encR_len hg htk 0 j u hu
  have hAl : ((l.take i).flatMap encR).length = i * 4 := by rw [flat_len encR_len, List.length_take, Nat.min_eq_left (by omega)]
  have hDl : ((l.drop i).flatMap encR).length = (l.length - i) * 4 := by rw [flat_len encR_len, List.length_drop]
  have hsp : l.flatMap encR = (l.take i).flatMap encR ++ (l.drop i).flatMap encR := by rw [← List.flatMap_append, List.take_append_drop]
  have hD1 : ∀ u ∈ (l.drop i).flatMap encR, u.oneCell' = true := fun u hu => by obtain ⟨y, _, hy⟩ := List.mem_flatMap.1 hu; exact encR_one y u hy
  have hins : (insL l i x).flatMap encR = (l.take i).flatMap encR ++ (encR x ++ (l.drop i).flatMap encR) := by unfold insL; rw [List.flatMap_append, List.flatMap_cons]
  have hil := insL_len l i x (by omega)
  have hold : (Builtin.firstCells i0.size i (.slice (some ⟨g, 0, none⟩) i cap)).run Try.prog w.drew = .ok ((l.take i).flatMap encR).toArray w.drew := by
    rw [hzs]
    exact run_firstCells_some w.drew 4 i ⟨g, 0, none⟩ i cap _ hAl (fun j v hj => by
      rw [add_off, Nat.zero_add]
      have := hR0 j v (by rw [List.drop_zero, hsp, List.getElem?_append_left (by rw [hAl]; have := (List.getElem?_eq_some_iff.1 hj).1; rwa [hAl] at this)]; exact hj)
      rwa [Nat.zero_mul, Nat.zero_add] at this)
  obtain ⟨A, hA⟩ : ∃ A, (l.take i).flatMap encR = A := ⟨_, rfl⟩
  obtain ⟨D, hD⟩ : ∃ D, (l.drop i).flatMap encR = D := ⟨_, rfl⟩
  rw [hA] at hAl hold hins
  rw [hD] at hDl hD1 hins hR
  have HIL := Lib.hid hil; have HINS := Lib.hid hins
  obtain ⟨N, hN⟩ : ∃ N, l.length = N := ⟨_, rfl⟩
  rw [hN] at hi hroom hm hDl hncap HIL ⊢
  have hkk : ((N + 1 - i : Nat) : Int) = (N : Int) + 1 - (i : Int) := by omega
  have hrz := Lib.run_append_grow_zeros (P := Try.prog) w 43 3 43 89 i0 _ .i64 .i64 Try.underlying43 Try.underlying3 hi0 hz0 (some ⟨g, 0, none⟩) i cap A hold (N + 1 - i) (by omega) (by rw [hzs]; decide) (by omega) (by omega) (by rw [hzb]; omega) (by rw [hzb]; exact growslice_fits (by omega) (by omega))
  rw [show i + (N + 1 - i) = N + 1 by omega, hkk] at hrz
  have hG1 := grownCap_ge w (N + 1) cap 89
  have hG2 := grownCap_le_maxLen w (N + 1) cap 89 (by unfold maxLen; omega)
  obtain ⟨G, hG⟩ : ∃ G, grownCap w (N + 1) cap 89 = G := ⟨_, rfl⟩
  rw [hG] at hrz hG1 hG2
  obtain ⟨ROW, hROW⟩ : ∃ ROW : Array Value, A.toArray ++ Builtin.zeroCells (Value.agg #[.int .i64 0, .int .i64 0, .int .i64 0, .int .i64 0]).cells (N + 1 - i) ++ Builtin.zeroCells (Value.agg #[.int .i64 0, .int .i64 0, .int .i64 0, .int .i64 0]).cells (G - (N + 1)) = ROW := ⟨_, rfl⟩
  rw [hROW] at hrz
  have hRsz : ROW.size = G * 4 := by
    rw [← hROW, Array.size_append, Array.size_append, size_zeroCells, size_zeroCells, List.size_toArray, hAl]
    simp [Value.cells]; omega
  have hRA : ROW.toList.take (i * 4) = A := by
    rw [← hROW, Array.toList_append, Array.toList_append, List.append_assoc, ← hAl]
    exact List.take_left
  obtain ⟨Z, hZ⟩ : ∃ Z, w.heap.size = Z := ⟨_, rfl⟩
  have hZb : B ≤ Z := by omega
  rw [hZ] at hrz hgw hvw
  obtain ⟨w1, hw1⟩ : ∃ w1, w.drew.alloc (.cells ROW 89) = w1 := ⟨_, rfl⟩
  rw [hw1] at hrz
  have hg1 : w1.heap[Z]? = some (.cells ROW 89 (0, 0)) := by rw [← hw1, ← hZ]; exact heap_alloc_new w.drew _
  have B1 : Below B w w1 := by rw [← hw1]; exact ((Below.refl _ _).drew).alloc hBg _
  have hx1 : Blk w1 vb 89 (encR x).toArray := by rw [← hw1]; exact Blk.alloc (show Blk w.drew vb _ _ from hx) _
  have hD1c : ∀ j u, D[j]? = some u → w1.cell? ⟨g, i * 4 + j, none⟩ = some u := fun j u hu => by rw [← hw1, World.cell?_alloc_past (w := w.drew) _ g _ (by rw [← hZ] at hgw; exact hgw)]; exact hR j u hu
  have hmin2 : Nat.min 1 (N + 1 - i) = 1 := Nat.min_eq_left (by omega)
  have HC2 := run_copy_rowK (P := Try.prog) w1 43 43 3 89 4 Z (i * 4) (N + 1 - i) (G - i) ⟨vb, 0, none⟩ 1 1 ROW 89 (encR x) Try.underlying43 sizeA hg1 (by rw [hmin2]; rfl)
    (fun j u hu => by rw [add_off, Nat.zero_add, hx1.cell]; simpa using hu) (by rw [hRsz, encR_len]; omega) (encR_one x)
  rw [hmin2] at HC2
  have hl1 : (splice ROW.toList (i * 4) (encR x)).length = G * 4 := by rw [splice_len _ _ _ (by rw [encR_len, Array.length_toList, hRsz]; omega), Array.length_toList, hRsz]
  have hfin := splice_two' ROW.toList A (encR x) D (i * 4) hRA hAl (by rw [encR_len, hDl, Array.length_toList, hRsz]; omega)
  rw [encR_len, hDl, ← HINS.out, show i * 4 + 4 = (i + 1) * 4 by omega, show (i + 1) * 4 + (N - i) * 4 = (N + 1) * 4 by omega] at hfin
  have hl2 : (splice (splice ROW.toList (i * 4) (encR x)) ((i + 1) * 4) D).length = G * 4 := by rw [splice_len _ _ _ (by rw [hDl, hl1]; omega), hl1]
  have hg2 : (w1.setRow Z (splice ROW.toList (i * 4) (encR x)).toArray).heap[Z]? = some (.cells (splice ROW.toList (i * 4) (encR x)).toArray 89 (0, 0)) := setRow_heap w1 Z _ _ _ _ hg1
  obtain ⟨X1, hX1⟩ : ∃ X1, splice ROW.toList (i * 4) (encR x) = X1 := ⟨_, rfl⟩
  rw [hX1] at hg2 hl1 hfin hl2 HC2
  obtain ⟨w2, hw2⟩ : ∃ w2, w1.setRow Z X1.toArray = w2 := ⟨_, rfl⟩
  rw [hw2] at hg2 HC2
  have B2 : Below B w w2 := by rw [← hw2]; exact below_setRow B1 hZb _
  have hD2c : ∀ j u, D[j]? = some u → w2.cell? ⟨g, i * 4 + j, none⟩ = some u := fun j u hu => by
    have e : w2.heap[g]? = w1.heap[g]? := by rw [← hw2]; exact setRow_other w1 Z g _ (by omega)
    have := hD1c j u hu
    unfold World.cell? at this ⊢
    simp only at this ⊢
    rw [e]; exact this
  have hmin : Nat.min (N - i) (N - i) = N - i := Nat.min_self _
  have HC3 := run_copy_rowK (P := Try.prog) w2.drew 43 43 3 89 4 Z ((i + 1) * 4) (N - i) (G - (i + 1)) ⟨g, i * 4, none⟩ (N - i) (cap - i) X1.toArray 89 D Try.underlying43 sizeA hg2 (by rw [hmin]; exact hDl)
    (fun j u hu => by rw [add_off]; exact hD2c j u hu) (by rw [List.size_toArray, hl1, hDl]; omega) hD1
  rw [hmin] at HC3
  simp only [List.toList_toArray] at HC3
  have hg3 : (w2.drew.setRow Z (splice X1 ((i + 1) * 4) D).toArray).heap[Z]? = some (.cells (splice X1 ((i + 1) * 4) D).toArray 89 (0, 0)) := setRow_heap w2.drew Z _ _ _ _ hg2
  obtain ⟨w3, hw3⟩ : ∃ w3, w2.drew.setRow Z (splice X1 ((i + 1) * 4) D).toArray = w3 := ⟨_, rfl⟩
  rw [hw3] at hg3 HC3
  have B3 := Lib.hid (show Below B w w3 by rw [← hw3]; exact below_setRow (Below.drew B2) hZb _)
  have OW := Lib.hid (OwnR.of_row (enc := encR) (l := insL l i x) encR_len hZb hg3 (by rw [HIL.out]; exact hG1) hG2 (by rw [List.size_toArray]; exact hl2) (by rw [List.toList_toArray, HIL.out]; exact hfin))
  rw [HIL.out] at OW
  have H1 := Lib.hid hrz; have H2 := Lib.hid HC2; have H3 := Lib.hid HC3
  have hc63 : cap ≤ 9223372036854775807 := by omega
  have hG63 : G ≤ 9223372036854775807 := by unfold maxLen at hG2; omega
  clear HC2 HC3 hrz hw1 hw2 hw3 hX1 hg hg1 hg2 hg3 hl1 hl2 hfin hx hx1 hD1c hD2c hD1 hmin hmin2 hR hR0 hsp hins hil hold hROW hRsz hRA hG hG2 hA hD hN hAl hDl hkk B1 B2 hZ hzs hzb hi0 hz0 htk hsz HINS HIL
  have hz2 : ¬ ((i : Int) = (N : Int)) := by omega
  have hb2 : ¬ (G = i + 1) := by omega
  have hb4 : ¬ (G = i) := by omega
  have hb6 : ¬ (cap = i) := by omega
  have hin : i ≤ N := by omega
  have hw1 : IntKind.i64.wrap ((i : Int) + 1) = (i : Int) + 1 := by rw [IntKind.wrap_i64]; omega
  have hb1 : (0 : Int) ≤ (i : Int) + 1 := by omega
  have htn : ((i : Int) + 1).toNat = i + 1 := by omega
  have hb3 : (i : Int) ≤ (N : Int) + 1 := by omega
  have hb5 : (i : Int) + 1 ≤ (N : Int) + 1 := by omega
  have hb7 : (i : Int) ≤ (N : Int) := by omega
  go_enter Try.func78, Try.ntmps78
  go_wp2_with (first
    | (at_builtin; refine wpList_app_run rfl _ _ 43 3 rfl _ _ _ w1 rfl rfl H1.out ?_)
    | (refine wpList_copy_run rfl (.tmp 43) (.tmp 44) 43 43 rfl _ _ _ w2 rfl rfl H2.out ?_))
  go_region_law (refine step_copy_run rfl (.tmp 50) (.tmp 53) 43 43 rfl _ _ _ w3 (by simp [Act.eval, Act.put]) (by simp [Act.eval, Act.put]) H3.out ?_)
  all_goals
    go_wp2
    go_ret
    exact ⟨_, rfl, OW.out, B3.out⟩
theorem ins_any (v : Value) (l : List Rw) (i : Nat) (x : Rw) (vb B : Nat) (w : World) (hown : OwnA w B v l) (hi : i ≤ l.length) (hm : l.length ≤ 1000000) (hB : B ≤ w.heap.size) (hx : Blk w vb 89 (encR x).toArray) (hvb : ∀ k, v.ownBlock = some k → vb ≠ k) :
    Calls Try.prog 78 #[v, .int .i64 (i : Int), .slice (some ⟨vb, 0, none⟩) 1 1] w fun e w' => ∃ v', e = .returned v' ∧ OwnA w' B v' (insL l i x) ∧ Below B w w' := by
  rcases Nat.eq_or_lt_of_le hi with rfl | hlt
  · exact ins_end v l x vb B w hown hm hB hx
  · obtain ⟨g, cap, cur, rfl, hBg, hnc, hcm, hg, hsz, htk⟩ := hown.row (by omega)
    by_cases hr : l.length + 1 ≤ cap
    · exact ins_shift g cap cur l i x vb B w hg hBg hcm hsz htk hlt hr hm hx (hvb g rfl)
    · exact ins_grow g cap cur l i x vb B w hg hB hnc hsz htk hlt (by omega) hm hx
end Co
end
end Go.Proofs.Ytcgdhankllphgaa
