import Derived.Test.YteblnmhaohbkkaaDoorRLeH
import Derived.Deep.RegionLaw
namespace Go.Proofs.YteblnmhaohbkkaaDoor
set_option linter.unusedVariables false
set_option linter.unusedSimpArgs false
set_option linter.unusedSectionVars false
namespace Le
open Go.RowKit
theorem splice_two {α : Type} (X A E D : List α) (p : Nat) (hA : X.take p = A) (hp : A.length = p) (hX : p + E.length + D.length ≤ X.length) :
    (splice (splice X (p + E.length) D) p E).take (p + E.length + D.length) = A ++ (E ++ D) := by
  have h1 : (X.take (p + E.length)).take p = A := by rw [List.take_take, Nat.min_eq_left (by omega)]; exact hA
  have h2 : (splice X (p + E.length) D).take p = A := by
    unfold splice
    rw [List.take_append_of_le_length (by simp; omega)]
    exact h1
  have h3 : (splice X (p + E.length) D).drop (p + E.length) = D ++ X.drop (p + E.length + D.length) := by
    unfold splice
    rw [List.drop_left' (by simp; omega)]
  have h4 : splice (splice X (p + E.length) D) p E = (A ++ (E ++ D)) ++ X.drop (p + E.length + D.length) := by
    have e : splice (splice X (p + E.length) D) p E = (splice X (p + E.length) D).take p ++ (E ++ (splice X (p + E.length) D).drop (p + E.length)) := rfl
    rw [e, h2, h3]; simp
  rw [h4, List.take_left' (by simp; omega)]
theorem splice_two' {α : Type} (X A E D : List α) (p : Nat) (hA : X.take p = A) (hp : A.length = p) (hX : p + E.length + D.length ≤ X.length) :
    (splice (splice X p E) (p + E.length) D).take (p + E.length + D.length) = A ++ (E ++ D) := by
  have h1 : splice X p E = (A ++ E) ++ X.drop (p + E.length) := by unfold splice; rw [hA]; simp
  have h4 : splice (splice X p E) (p + E.length) D = (A ++ (E ++ D)) ++ (splice X p E).drop (p + E.length + D.length) := by
    have e : splice (splice X p E) (p + E.length) D = (splice X p E).take (p + E.length) ++ (D ++ (splice X p E).drop (p + E.length + D.length)) := rfl
    have h5 : (splice X p E).take (p + E.length) = A ++ E := by rw [h1, List.take_left' (by simp; omega)]
    rw [e, h5]; simp
  rw [h4, List.take_left' (by simp; omega)]
theorem splice_len {α : Type} (X : List α) (p : Nat) (E : List α) (h : p + E.length ≤ X.length) : (splice X p E).length = X.length := length_splice X p E h
set_option maxRecDepth 100000 in
set_option maxHeartbeats 2000000 in
theorem ins_shift (g cap : Nat) (cur : Array Value) (l : List Gr) (i : Nat) (x : Gr) (vb B : Nat) (w : World) (hg : w.heap[g]? = some (.cells cur 88 (0, 0))) (hBg : B ≤ g) (hcap : cap ≤ maxLen) (hsz : cur.size = cap * 3) (htk : cur.toList.take (l.length * 3) = l.flatMap encG)
    (hi : i < l.length) (hroom : l.length + 1 ≤ cap) (hm : l.length ≤ 1000000) (hx : Blk w vb 88 (encG x).toArray) (hvg : vb ≠ g) :
    Calls Tryd.prog 55 #[.slice (some ⟨g, 0, none⟩) l.length cap, .int .i64 (i : Int), .slice (some ⟨vb, 0, none⟩) 1 1] w fun e w' => ∃ v', e = .returned v' ∧ OwnA w' B v' (insL l i x) ∧ Below B w w' := by
  have HX := Lib.hid hx
  have hcl : cur.toList.length = cap * 3 := by rw [Array.length_toList]; exact hsz
  have HR := Lib.hid (fun j u hu => row_cells encG_len hg htk i j u hu)
  have hAl : ((l.take i).flatMap encG).length = i * 3 := by rw [flat_len encG_len, List.length_take, Nat.min_eq_left (by omega)]
  have hDl : ((l.drop i).flatMap encG).length = (l.length - i) * 3 := by rw [flat_len encG_len, List.length_drop]
  have hsp : l.flatMap encG = (l.take i).flatMap encG ++ (l.drop i).flatMap encG := by rw [← List.flatMap_append, List.take_append_drop]
  have htA : cur.toList.take (i * 3) = (l.take i).flatMap encG := by
    have : (cur.toList.take (l.length * 3)).take (i * 3) = (l.take i).flatMap encG := by rw [htk, hsp, List.take_left' hAl]
    rw [List.take_take, Nat.min_eq_left (by omega)] at this; exact this
  have hD1 : ∀ u ∈ (l.drop i).flatMap encG, u.oneCell' = true := fun u hu => by obtain ⟨y, _, hy⟩ := List.mem_flatMap.1 hu; exact encG_one y u hy
  have hE1 : ∀ u ∈ encG x, u.oneCell' = true := encG_one x
  have hfin := splice_two cur.toList ((l.take i).flatMap encG) (encG x) ((l.drop i).flatMap encG) (i * 3) htA hAl (by rw [encG_len, hDl, hcl]; omega)
  rw [encG_len, hDl] at hfin
  have hins : (insL l i x).flatMap encG = (l.take i).flatMap encG ++ (encG x ++ (l.drop i).flatMap encG) := by unfold insL; rw [List.flatMap_append, List.flatMap_cons]
  rw [← hins, show i * 3 + 3 = (i + 1) * 3 by omega] at hfin
  have hl1 : (splice cur.toList ((i + 1) * 3) ((l.drop i).flatMap encG)).length = cap * 3 := by rw [splice_len _ _ _ (by rw [hDl, hcl]; omega), hcl]
  have hl2 : (splice (splice cur.toList ((i + 1) * 3) ((l.drop i).flatMap encG)) (i * 3) (encG x)).length = cap * 3 := by rw [splice_len _ _ _ (by rw [encG_len, hl1]; omega), hl1]
  have hil := insL_len l i x (by omega)
  have HIL := Lib.hid hil
  have hov : ∀ lb cb, (callFunc 66 #[.slice (some ⟨vb, 0, none⟩) 1 1, .slice (some ⟨g, (i + 1) * 3, none⟩) lb cb]).run Tryd.prog w = .ok (.value (.bool false)) w := fun lb cb => by
    rw [run_callFunc_extern (fn := Tryd.f66) (by kernel_rfl) (by kernel_rfl) (by kernel_rfl) (by kernel_rfl) (e := Extern.SlicesOverlaps.overlaps #[22, 22] #[4]) (by kernel_rfl),
      Lib.run_overlaps_apart w 22 4 88 Tryd.underlying22 3 (fun W => by simp [sizeOf, typeInfo]; rfl) ⟨vb, 0, none⟩ ⟨g, (i + 1) * 3, none⟩ 1 1 lb cb hvg 88 88 3 cur.size
        (by unfold World.shape?; rw [show w.heap[vb]? = _ from hx]; rfl) (by unfold World.shape?; rw [hg]) (by rw [hsz]; omega) (hx.frozen 0) (hx.frozen 3)]
    rfl
  obtain ⟨D, hD⟩ : ∃ D, (l.drop i).flatMap encG = D := ⟨_, rfl⟩
  rw [hD] at HR hDl hD1 hfin hl1 hl2
  obtain ⟨N, hN⟩ : ∃ N, l.length = N := ⟨_, rfl⟩
  rw [hN] at hi hroom hm hDl hfin hil HIL ⊢
  have HL := Lib.hid hl1; have HL2 := Lib.hid hl2; have HF := Lib.hid hfin; have HDL := Lib.hid hDl; have HG := Lib.hid hg; have HD1 := Lib.hid hD1; have HS := Lib.hid hsz
  have hc63 : cap ≤ 9223372036854775807 := by unfold maxLen at hcap; omega
  have hz2 : ¬ ((i : Int) = (N : Int)) := by omega
  have hb2 : ¬ (cap = i + 1) := by omega
  have hb4 : ¬ (cap = i) := by omega
  have hin : i ≤ N := by omega
  have HC := Lib.hid hcap
  clear hcl hx hAl hsp htA hins hl1 hl2 hil hD hN hD1 hfin hDl hg hsz htk hcap hE1
  have hmin : Nat.min (N + 1 - i) (N - i) = N - i := Nat.min_eq_right (by omega)
  have hmin2 : Nat.min 1 (N + 1 - i) = 1 := Nat.min_eq_left (by omega)
  have HC1 := Lib.hid (run_copy_rowK (P := Tryd.prog) w.drew 22 22 3 88 3 g ((i + 1) * 3) (N - i) (cap - (i + 1)) ⟨g, i * 3, none⟩ (N + 1 - i) (cap - i) cur 88 D Tryd.underlying22 sizeA HG.out (by rw [hmin]; exact HDL.out)
    (fun j u hu => by rw [add_off]; exact HR.out j u hu) (by rw [HDL.out, HS.out]; omega) HD1.out)
  have hg1 : (w.drew.setRow g (splice cur.toList ((i + 1) * 3) D).toArray).heap[g]? = some (.cells (splice cur.toList ((i + 1) * 3) D).toArray 88 (0, 0)) := setRow_heap w.drew g _ _ _ _ HG.out
  obtain ⟨X1, hX1⟩ : ∃ X1, splice cur.toList ((i + 1) * 3) D = X1 := ⟨_, rfl⟩
  rw [hX1] at HC1 hg1 HF HL HL2
  have hx1 : Blk (w.drew.setRow g X1.toArray) vb 88 (encG x).toArray := Blk.rowfar (show Blk w.drew vb _ _ from HX.out) hvg _
  obtain ⟨w1, hw1⟩ : ∃ w1, w.drew.setRow g X1.toArray = w1 := ⟨_, rfl⟩
  have B1 := Lib.hid (show Below B w w1 by rw [← hw1]; exact below_setRow ((Below.refl _ _).drew) hBg _)
  rw [hw1] at HC1 hg1 hx1
  have HC2 := Lib.hid (run_copy_rowK (P := Tryd.prog) w1 22 22 3 88 3 g (i * 3) (N + 1 - i) (cap - i) ⟨vb, 0, none⟩ 1 1 X1.toArray 88 (encG x) Tryd.underlying22 sizeA hg1 (by rw [hmin2]; rfl)
    (fun j u hu => by rw [add_off, Nat.zero_add, hx1.cell]; simpa using hu) (by rw [List.size_toArray, HL.out, encG_len]; omega) (encG_one x))
  have hg2 : (w1.setRow g (splice X1 (i * 3) (encG x)).toArray).heap[g]? = some (.cells (splice X1 (i * 3) (encG x)).toArray 88 (0, 0)) := setRow_heap w1 g _ _ _ _ hg1
  have OW := Lib.hid (OwnR.of_row (enc := encG) (l := insL l i x) encG_len hBg hg2 (by rw [HIL.out]; exact hroom) HC.out (by rw [List.size_toArray]; exact HL2.out) (by rw [List.toList_toArray, HIL.out]; have := HF.out; rw [show (i + 1) * 3 + (N - i) * 3 = (N + 1) * 3 by omega] at this; exact this))
  rw [HIL.out] at OW
  obtain ⟨w2, hw2⟩ : ∃ w2, w1.setRow g (splice X1 (i * 3) (encG x)).toArray = w2 := ⟨_, rfl⟩
  have B2 := Lib.hid (show Below B w w2 by rw [← hw2]; exact below_setRow B1.out hBg _)
  simp only [List.toList_toArray] at HC2
  rw [hw2] at HC2 OW
  rw [hmin] at HC1; rw [hmin2] at HC2
  clear hmin hmin2 hX1 hw1 hw2 hg1 hg2 hx1
  have hw1 : IntKind.i64.wrap ((i : Int) + 1) = (i : Int) + 1 := by rw [IntKind.wrap_i64]; omega
  have hb1 : (0 : Int) ≤ (i : Int) + 1 := by omega
  have htn : ((i : Int) + 1).toNat = i + 1 := by omega
  have hb3 : (i : Int) ≤ (N : Int) + 1 := by omega
  have hb5 : (i : Int) + 1 ≤ (N : Int) + 1 := by omega
  go_enter Tryd.func55, Tryd.ntmps55
  go_wp2_with (simp only [hov])
  go_region_law (refine step_copy_run rfl (.tmp 73) (.tmp 76) 22 22 rfl _ _ _ w1 (by simp [Act.eval, Act.put]) (by simp [Act.eval, Act.put]) HC1.out ?_)
  all_goals
    go_wp2_with (refine wpList_copy_run rfl (.tmp 80) (.tmp 81) 22 22 rfl _ _ _ w2 rfl rfl HC2.out ?_)
    go_ret
    exact ⟨_, rfl, OW.out, B2.out⟩
end Le
end Go.Proofs.YteblnmhaohbkkaaDoor
