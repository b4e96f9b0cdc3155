/- Rings: add, rotate (PU, PV, B, M3, R, RR, RS in one text) -/
import Derived.Test.YtcdcnklfcmoiiaaDoorQG2
import Derived.Test.YtcdcnklfcmoiiaaDoorQK1
import Derived.Test.YtcdcnklfcmoiiaaDoorQA
import Derived.Laws.OwnMore
namespace Go.Proofs.YtcdcnklfcmoiiaaDoor
set_option linter.unusedVariables false
set_option linter.unusedSimpArgs false
section
open Go.RowKit
/-- The list with x in its place. -/
def putL (l : List Rw) (p : Nat) (h : Bool) (x : Rw) : List Rw := if h = true then l.set p x else insL l p x
/-- What is built after k rounds. -/
def putK (l : List Rw) (p : Nat) (h : Bool) (x : Rw) (k : Nat) : List Rw := if k ≤ p then l.take k else (putL l p h x).take (if h = true then k else k + 1)
theorem putK_le {l : List Rw} {p k : Nat} {h : Bool} {x : Rw} (q : k ≤ p) : putK l p h x k = l.take k := if_pos q
theorem putK_gt {l : List Rw} {p k : Nat} {h : Bool} {x : Rw} (q : p < k) : putK l p h x k = (putL l p h x).take (if h = true then k else k + 1) := if_neg (by omega)
theorem putK_zero (l : List Rw) (p : Nat) (h : Bool) (x : Rw) : putK l p h x 0 = [] := by simp [putK]
theorem take_one {α : Type} (l : List α) (k : Nat) (y : α) (h : l[k]? = some y) : l.take (k + 1) = l.take k ++ [y] := by
  have hk : k < l.length := (List.getElem?_eq_some_iff.1 h).1
  rw [List.take_succ_eq_append_getElem hk]
  congr 2
  rw [List.getElem?_eq_getElem hk] at h
  simpa using h
theorem getD_some {l : List Rw} {k : Nat} (hk : k < l.length) : l[k]? = some (l.getD k r0) := by rw [getEl hk]; exact List.getElem?_eq_getElem hk
theorem insL_at (l : List Rw) (p : Nat) (x : Rw) (hp : p ≤ l.length) : (insL l p x)[p]? = some x := by
  unfold insL
  rw [List.getElem?_append_right (by rw [List.length_take]; omega), List.length_take, Nat.min_eq_left hp, Nat.sub_self]
  rfl
theorem insL_past (l : List Rw) (p : Nat) (x : Rw) (k : Nat) (hp : p ≤ l.length) (hk : p ≤ k) : (insL l p x)[k + 1]? = l[k]? := by
  unfold insL
  rw [List.getElem?_append_right (by rw [List.length_take]; omega), List.length_take, Nat.min_eq_left hp, show k + 1 - p = (k - p) + 1 by omega, List.getElem?_cons_succ, List.getElem?_drop]
  congr 1
  omega
theorem putK_below (l : List Rw) (p : Nat) (h : Bool) (x : Rw) (k : Nat) (hk : k < p) (hl : k < l.length) : putK l p h x (k + 1) = putK l p h x k ++ [l.getD k r0] := by
  rw [putK_le (show k + 1 ≤ p by omega), putK_le (show k ≤ p by omega), take_one _ _ _ (getD_some hl)]
theorem putK_has (l : List Rw) (p : Nat) (x : Rw) (hl : p < l.length) : putK l p true x (p + 1) = putK l p true x p ++ [x] := by
  rw [putK_gt (show p < p + 1 by omega), putK_le (Nat.le_refl p)]
  unfold putL
  simp only [if_true]
  rw [take_one _ p x (by rw [List.getElem?_set_self hl])]
  congr 1
  rw [List.take_set, List.set_eq_of_length_le (by rw [List.length_take]; omega)]
theorem putK_not (l : List Rw) (p : Nat) (x : Rw) (hl : p < l.length) : putK l p false x (p + 1) = putK l p false x p ++ [x] ++ [l.getD p r0] := by
  rw [putK_gt (show p < p + 1 by omega), putK_le (Nat.le_refl p)]
  unfold putL
  simp only [Bool.false_eq_true, if_false]
  rw [take_one _ (p + 1) (l.getD p r0) (by rw [insL_past _ _ _ _ (by omega) (Nat.le_refl _)]; exact getD_some hl), take_one _ p x (insL_at _ _ _ (by omega))]
  congr 2
  unfold insL
  rw [List.take_left' (by rw [List.length_take]; omega)]
theorem putK_above (l : List Rw) (p : Nat) (h : Bool) (x : Rw) (k : Nat) (hk : p < k) (hl : k < l.length) : putK l p h x (k + 1) = putK l p h x k ++ [l.getD k r0] := by
  rw [putK_gt (show p < k + 1 by omega), putK_gt hk]
  unfold putL
  cases h
  · simp only [Bool.false_eq_true, if_false]
    rw [take_one _ (k + 1) (l.getD k r0) (by rw [insL_past _ _ _ _ (by omega) (by omega)]; exact getD_some hl)]
  · simp only [if_true]
    rw [take_one _ k (l.getD k r0) (by rw [List.getElem?_set_ne (by omega)]; exact getD_some hl)]
theorem putK_end (l : List Rw) (p : Nat) (h : Bool) (x : Rw) (hl : p < l.length) : putK l p h x l.length = putL l p h x := by
  rw [putK_gt hl]
  apply List.take_of_length_le
  unfold putL
  cases h
  · simp only [Bool.false_eq_true, if_false]; rw [insL_len _ _ _ (by omega)]; exact Nat.le_refl _
  · simp only [if_true]; rw [List.length_set]; exact Nat.le_refl _
theorem putK_last (l : List Rw) (h : Bool) (x : Rw) (hh : h = false) : putK l l.length h x l.length ++ [x] = putL l l.length h x := by
  subst hh
  rw [putK_le (Nat.le_refl _), List.take_length]
  unfold putL
  simp only [Bool.false_eq_true, if_false]
  rw [insL_end]
theorem putK_len (l : List Rw) (p : Nat) (h : Bool) (x : Rw) (k : Nat) (hk : k ≤ l.length) : (putK l p h x k).length ≤ k + 1 := by
  unfold putK
  split
  · rw [List.length_take]; omega
  · rw [List.length_take]; split <;> omega
section
variable {α : Type} {P : Program}
/-- As run_app_rows, and every other block stays. -/
theorem run_app_rowsK {t tx ty e k bytes : Nat} {z : Value} {enc : α → List Value} (ht : P.underlying t = some (.slice e)) (htx : P.underlying tx = some (.slice e)) (hinfo : (P.info? e).map (fun i => (i.zero, i.size, i.bytes)) = some (some z, k, bytes)) (hz : z.cells.size = k) (hk0 : 0 < k) (hb0 : bytes ≤ 1024)
    (hk : ∀ x, (enc x).length = k) (h1 : ∀ x, ∀ v ∈ enc x, v.oneCell' = true) (w : World) (B : Nat) (v : Value) (l : List α) (hown : OwnR e k enc w B v l) (a : Option Addr) (cap : Nat) (m : List α) (hm : RowsA k enc w a m)
    (hl : l.length ≤ 1000000000) (hml : m.length ≤ 1000000000) (hB : B ≤ w.heap.size) :
    ∃ b n c w', (Builtin.append_ #[t, tx] ty #[v, .slice a m.length cap]).run P w = .ok (.slice b n c) w' ∧ OwnR e k enc w' B (.slice b n c) (l ++ m) ∧ Below B w w' ∧ ∀ g o, w.heap[g]? = some o → v.ownBlock ≠ some g → w'.heap[g]? = some o := by
  obtain ⟨i0, hi, hz0, hz1, hz2⟩ := info_parts hinfo
  have hs := src_rows (cap := cap) htx hk hk0 h1 hm
  have hbb : (l.length + m.length) * bytes ≤ 2000000000 * 1024 := Nat.mul_le_mul (by omega) hb0
  obtain ⟨v', w', hr, h2, h3⟩ := run_app_src (P := P) w B t tx ty e i0 z ht hi hz0 (by rw [hz1]; exact hz) (by rw [hz1]; exact hk0) v l.length (l.flatMap enc) (by rw [hz1]; exact hown) (.slice a m.length cap) m.length (m.flatMap enc) (by rw [hz1]; exact hs) (by unfold maxLen; omega) (by rw [hz2]; omega) hB
  have ho : OwnR e k enc w' B v' (l ++ m) := by
    unfold OwnR
    rw [List.length_append, List.flatMap_append, ← hz1]
    exact h2
  obtain ⟨b2, c2, e2, -, -⟩ := ho.view hk
  subst e2
  exact ⟨b2, _, c2, w', hr, ho, grown_below (Below.refl _ _) h3 (fun g hg => (own_lt hown g hg).1) hB, fun g o hg hne => (h3.block g (Array.getElem?_eq_some_iff.1 hg).1 (fun q => hne q.symm)).trans hg⟩
end
theorem app_oneR (w : World) (B : Nat) (v : Value) (l : List Rw) (x1 x2 : Int) (x3 : ByteArray) (x4 x5 : Int) (hown : Ke.OwnA w B v l) (hl : l.length ≤ 1000000) (hB : B ≤ w.heap.size) :
    ∃ b n c w', (Builtin.append_ #[22, 22] 22 #[v, .slice (some ⟨w.heap.size, 0, none⟩) 1 1]).run Tryd.prog (w.alloc (.cells #[.int .i64 x1, .int .i64 x2, .string x3, .int .i64 x4, .int .i64 x5] 24)) = .ok (.slice b n c) w' ∧ Ke.OwnA w' B (.slice b n c) (l ++ [(x1, x2, x3, x4, x5)]) ∧ Below B w w' ∧ ∀ g o, w.heap[g]? = some o → v.ownBlock ≠ some g → w'.heap[g]? = some o := by
  obtain ⟨b, n, c, w', hr, ho, hb, hkk⟩ := run_app_rowsK (ty := 22) Tryd.underlying22 Tryd.underlying22 Ke.infoA rfl (by decide) (by decide) encR_len encR_one (w.alloc (.cells (encR (x1, x2, x3, x4, x5)).toArray 24)) B v l (hown.alloc _) (some ⟨w.heap.size, 0, none⟩) 1 [(x1, x2, x3, x4, x5)] (rows_one (enc := encR) w (x1, x2, x3, x4, x5)) (by omega) (by simp) (by simp; omega)
  exact ⟨b, n, c, w', hr, ho, ((Below.refl _ _).alloc hB _).trans hb, fun g o hg hne => hkk g o ((Below.heap_alloc w _ g (Array.getElem?_eq_some_iff.1 hg).1).trans hg) hne⟩
end
section
open Go.RowKit Go.Sort
set_option maxRecDepth 100000 in
set_option maxHeartbeats 4000000 in
theorem insert_any (a : Option Addr) (c : Nat) (l : List Rw) (x : Rw) (w : World) (hp : RwA w a l) (hh : ¬ hasC (cR x.1 x.2.1) l = true) (hm : l.length ≤ 10000) :
    Calls Tryd.prog 60 #[.slice a l.length c, .agg (encR x).toArray] w fun e w' => (∃ v, e = .returned v ∧ Ke.OwnA w' w.heap.size v (insL l (posC (cR x.1 x.2.1) l) x)) ∧ Below w.heap.size w w' := by
  have HP := Lib.hid hp
  obtain ⟨x1, x2, x3, x4, x5⟩ := x
  simp only at *
  have hle := posC_le (cR x1 x2) l
  have PB := Lib.hid (show ∀ j, j < posC (cR x1 x2) l → (l.getD j r0).1 < x1 ∨ (l.getD j r0).1 = x1 ∧ (l.getD j r0).2.1 < x2 from fun j hj => cR_neg.1 (posC_below _ l j hj))
  have PA := Lib.hid (show posC (cR x1 x2) l < l.length → x1 < (l.getD (posC (cR x1 x2) l) r0).1 ∨ x1 = (l.getD (posC (cR x1 x2) l) r0).1 ∧ x2 < (l.getD (posC (cR x1 x2) l) r0).2.1 from fun hl => by
    have h1 := posC_at (cR x1 x2) l hl
    rw [cR_neg] at h1
    have h2 : ¬ ((l.getD (posC (cR x1 x2) l) r0).1 = x1 ∧ (l.getD (posC (cR x1 x2) l) r0).2.1 = x2) := fun q => hh ((hasC_iff _ _).2 ⟨hl, cR_zero.2 q⟩)
    omega)
  obtain ⟨p, hp9⟩ : ∃ p, posC (cR x1 x2) l = p := ⟨_, rfl⟩
  rw [hp9] at hle PB PA
  rw [hp9]
  obtain ⟨N, hN⟩ : ∃ N, l.length = N := ⟨_, rfl⟩
  have HE := Lib.hid hN
  simp only [encR]
  rw [hN] at hm hle ⊢
  have HEND := Lib.hid (show p < N → putK l p false (x1, x2, x3, x4, x5) N = insL l p (x1, x2, x3, x4, x5) from fun q => by rw [← HE.out]; exact putK_end l p false _ (by rw [HE.out]; exact q))
  have HLST := Lib.hid (show p = N → putK l p false (x1, x2, x3, x4, x5) N ++ [(x1, x2, x3, x4, x5)] = insL l p (x1, x2, x3, x4, x5) from fun q => by rw [q, ← HE.out]; exact putK_last l false _ rfl)
  clear hp hN hp9 hh
  go_enter Tryd.func60, Tryd.ntmps60
  obtain ⟨G, hG⟩ : ∃ G, w.heap.size = G := ⟨_, rfl⟩
  have HG := Lib.hid hG
  have K2 := Lib.hid (show Blk (w.alloc (.cells #[.int .i64 x1, .int .i64 x2, .string x3, .int .i64 x4, .int .i64 x5] 24)) G 24 #[.int .i64 x1, .int .i64 x2, .string x3, .int .i64 x4, .int .i64 x5] from Blk.new' w _ _ _ hG rfl)
  have B := Lib.hid (show Below w.heap.size w (w.alloc (.cells #[.int .i64 x1, .int .i64 x2, .string x3, .int .i64 x4, .int .i64 x5] 24)) by (repeat' (first | (with_reducible exact Below.refl _ _) | (with_reducible assumption) | (with_reducible refine Below.alloc ?_ ?_ _) | (with_reducible refine Below.drew ?_) | (with_reducible refine below_dn ?_) | (with_reducible refine Below.setCell ?_ ?_ _) | (with_reducible exact Nat.le_refl _) | omega | (simp only [World.size_alloc, World.size_setCell, World.size_drew]; omega) | (simp; omega) | (simp; done))))
  go_upto_region 1 with (fail)
  try rw [hG]
  generalize hw0 : (w.alloc (.cells #[.int .i64 x1, .int .i64 x2, .string x3, .int .i64 x4, .int .i64 x5] 24)) = w0 at K2 B ⊢
  clear hw0 hG
  obtain ⟨Z, hZ⟩ : ∃ Z, w0.heap.size = Z := ⟨_, rfl⟩
  have HZ := Lib.hid (show G < Z by have := K2.out.lt; omega)
  have hZ0 : Z ≤ w0.heap.size := by omega
  clear hZ
  go_wp2
  go_loopw [5, 6, 7] (fun u5 u6 u7 wr => ∃ k : Nat, k ≤ N ∧ u7 = .int .i64 k ∧ u6 = .bool (decide (p < k)) ∧ Hid (Ke.OwnA wr Z u5 (putK l p false (x1, x2, x3, x4, x5) k)) ∧ Z ≤ wr.heap.size ∧ Hid (Blk wr G 24 #[.int .i64 x1, .int .i64 x2, .string x3, .int .i64 x4, .int .i64 x5]) ∧ Hid (Below w.heap.size w wr)) (fun _ _ u7 _ => (N - intOf u7).toNat)
  case atStart => exact ⟨0, by omega, rfl, by simp, Lib.hid (by rw [putK_zero]; exact OwnR.nil _ _ _ _ _), hZ0, K2, B⟩
  case round =>
    clear K2 B hZ0
    obtain ⟨k, hk, rfl, rfl, ho, hz, K2, B⟩ := hrel
    by_cases hlt : k < N
    · obtain ⟨m0, m1, m2, m3, m4⟩ := five K2.out
      have t0 : decide ((k : Int) < (N : Int)) = true := decide_eq_true (by omega)
      have wk : IntKind.i64.wrap ((k : Int) + 1) = (k : Int) + 1 := by rw [IntKind.wrap_i64]; omega
      have HR := Lib.hid (HP.out.mono B.out)
      obtain ⟨b, off, rfl, -, -, -, -, -⟩ := RwA.at_ HR.out (k := k) (by rw [HE.out]; exact hlt)
      have LN := Lib.hid (show (putK l p false (x1, x2, x3, x4, x5) k).length ≤ 10001 by have := putK_len l p false (x1, x2, x3, x4, x5) k (by rw [HE.out]; exact hk); omega)
      obtain ⟨y, hy⟩ : ∃ y, l.getD k r0 = y := ⟨_, rfl⟩
      have HY := Lib.hid hy
      clear hy
      obtain ⟨y1, y2, y3, y4, y5⟩ := y
      obtain ⟨e0, e1, e2, e3, e4⟩ := RwA.cells_ HR.out (k := k) (by rw [HE.out]; exact hlt) rfl
      rw [HY.out] at e0 e1 e2 e3 e4
      simp only at e0 e1 e2 e3 e4
      have k0 : (0 : Int) ≤ (k : Int) := by omega
      have kN : (k : Int) < (N : Int) := by omega
      rcases Nat.lt_trichotomy k p with hkp | hkp | hkp
      · have hc := PB.out k hkp
        rw [HY.out] at hc
        have v2 : ltB (x1, x2, x3, x4, x5) (y1, y2, y3, y4, y5) = false := decide_eq_false (by unfold ltR; simp only at hc ⊢; omega)
        have BF := Lib.hid (fun W : World => before_any (x1, x2, x3, x4, x5) (y1, y2, y3, y4, y5) W)
        rw [v2] at BF
        simp only [encR] at BF
        clear v2 hc
        have e9 : decide (p < k) = false := decide_eq_false (by omega)
        have HST := Lib.hid (by have := putK_below l p false (x1, x2, x3, x4, x5) k hkp (by rw [HE.out]; exact hlt); rw [HY.out] at this; exact this)
        have QO := Lib.hid (fun (d : Nat) (os : Array Obj) => BF.out (grow (redrawn wr d) os))
        have gc := grow_cell3
        have zz2 := K2.out.lt
        have zq := block_lt_of_cell e0
        go_wp2_with fail
        refine wp_region_quiet_below (by kernel_rfl) (by kernel_rfl) ?_
        repeat (go_big_quiet_step ((with_reducible exact Calls.regrown_of (QO.out _ _))))
        refine wpQuiet_nil ?_
        intro w7 hw'
        obtain ⟨⟨dq, osq⟩, hw''⟩ := hw'
        have hb := below_of_grow3 hw''
        clear hw'' gc zz2 zq QO
        replace ho := Lib.hid (OwnR.below ho.out hb)
        replace hz := Nat.le_trans hz hb.size
        replace HR := Lib.hid (HR.out.mono hb)
        replace K2 := Lib.hid (K2.out.below hb K2.out.lt)
        replace B := Lib.hid (B.out.trans (hb.mono B.out.size))
        clear m0 m1 m2 m3 m4 e0 e1 e2 e3 e4
        clear hb
        obtain ⟨m0, m1, m2, m3, m4⟩ := five K2.out
        obtain ⟨e0, e1, e2, e3, e4⟩ := RwA.cells_ HR.out (k := k) (by rw [HE.out]; exact hlt) rfl
        rw [HY.out] at e0 e1 e2 e3 e4
        simp only at e0 e1 e2 e3 e4
        obtain ⟨b8, n8, c8, w8, hr, hq, hb, -⟩ := app_oneR w7 Z u5 _ y1 y2 y3 y4 y5 ho.out (by first | (have := LN.out; omega) | (have := LN.out; simp; omega)) hz
        have HA8 := Lib.hid hr
        have O8 := Lib.hid hq
        replace hz := Nat.le_trans hz hb.size
        replace K2 := Lib.hid ((hb.block G (by have := HZ.out; omega)).trans K2.out)
        replace HR := Lib.hid (HP.out.mono (B.out.trans (hb.mono (by have := HZ.out; have := HG.out; omega))))
        replace B := Lib.hid (B.out.trans (hb.mono (by have := HZ.out; have := HG.out; omega)))
        clear hr hq hb ho
        replace K2 := Lib.hid (show Blk w8 G 24 #[.int .i64 x1, .int .i64 x2, .string x3, .int .i64 x4, .int .i64 x5] from K2.out)
        go_wp2_with (at_builtin; refine wpList_app_run rfl _ _ 22 22 rfl _ _ _ w8 rfl rfl HA8.out ?_)
        clear m0 m1 m2 m3 m4 e0 e1 e2 e3 e4
        have OF := Lib.hid (show Ke.OwnA w8 Z (.slice b8 n8 c8) (putK l p false (x1, x2, x3, x4, x5) (k + 1)) by rw [HST.out]; exact O8.out)
        go_roundw
        case rel => exact ⟨k + 1, by omega, by go_num, by rw [decide_eq_false (by omega)], OF, hz, K2, B⟩
        case measure => simp [intOf]; omega
      · have hc := PA.out (by rw [← hkp, HE.out]; exact hlt)
        rw [← hkp, HY.out] at hc
        have v2 : ltB (x1, x2, x3, x4, x5) (y1, y2, y3, y4, y5) = true := decide_eq_true (by unfold ltR; exact hc)
        have BF := Lib.hid (fun W : World => before_any (x1, x2, x3, x4, x5) (y1, y2, y3, y4, y5) W)
        rw [v2] at BF
        simp only [encR] at BF
        have HST := Lib.hid (show putK l p false (x1, x2, x3, x4, x5) (k + 1) = putK l p false (x1, x2, x3, x4, x5) k ++ [(x1, x2, x3, x4, x5)] ++ [(y1, y2, y3, y4, y5)] from by have := putK_not l p (x1, x2, x3, x4, x5) (by rw [HE.out]; omega); rw [← hkp, HY.out] at this; rw [hkp] at this ⊢; exact this)
        have e9 : decide (p < k) = false := decide_eq_false (by omega)
        have HKP := Lib.hid hkp
        clear v2 hc hkp

        have QO := Lib.hid (fun (d : Nat) (os : Array Obj) => BF.out (grow (redrawn wr d) os))
        have gc := grow_cell3
        have zz2 := K2.out.lt
        have zq := block_lt_of_cell e0
        go_wp2_with fail
        refine wp_region_quiet_below (by kernel_rfl) (by kernel_rfl) ?_
        repeat (go_big_quiet_step ((with_reducible exact Calls.regrown_of (QO.out _ _))))
        refine wpQuiet_nil ?_
        intro w7 hw'
        obtain ⟨⟨dq, osq⟩, hw''⟩ := hw'
        have hb := below_of_grow3 hw''
        clear hw'' gc zz2 zq QO
        replace ho := Lib.hid (OwnR.below ho.out hb)
        replace hz := Nat.le_trans hz hb.size
        replace HR := Lib.hid (HR.out.mono hb)
        replace K2 := Lib.hid (K2.out.below hb K2.out.lt)
        replace B := Lib.hid (B.out.trans (hb.mono B.out.size))
        clear m0 m1 m2 m3 m4 e0 e1 e2 e3 e4
        clear hb
        obtain ⟨m0, m1, m2, m3, m4⟩ := five K2.out
        obtain ⟨e0, e1, e2, e3, e4⟩ := RwA.cells_ HR.out (k := k) (by rw [HE.out]; exact hlt) rfl
        rw [HY.out] at e0 e1 e2 e3 e4
        simp only at e0 e1 e2 e3 e4
        obtain ⟨b8, n8, c8, w8, hr, hq, hb, -⟩ := app_oneR w7 Z u5 _ x1 x2 x3 x4 x5 ho.out (by first | (have := LN.out; omega) | (have := LN.out; simp; omega)) hz
        have HA8 := Lib.hid hr
        have O8 := Lib.hid hq
        replace hz := Nat.le_trans hz hb.size
        replace K2 := Lib.hid ((hb.block G (by have := HZ.out; omega)).trans K2.out)
        replace HR := Lib.hid (HP.out.mono (B.out.trans (hb.mono (by have := HZ.out; have := HG.out; omega))))
        replace B := Lib.hid (B.out.trans (hb.mono (by have := HZ.out; have := HG.out; omega)))
        clear hr hq hb ho
        replace K2 := Lib.hid (show Blk w8 G 24 #[.int .i64 x1, .int .i64 x2, .string x3, .int .i64 x4, .int .i64 x5] from K2.out)
        go_upto_region 9 with (at_builtin; refine wpList_app_run rfl _ _ 22 22 rfl _ _ _ w8 rfl rfl HA8.out ?_)
        clear m0 m1 m2 m3 m4 e0 e1 e2 e3 e4
        obtain ⟨m0, m1, m2, m3, m4⟩ := five K2.out
        obtain ⟨e0, e1, e2, e3, e4⟩ := RwA.cells_ HR.out (k := k) (by rw [HE.out]; exact hlt) rfl
        rw [HY.out] at e0 e1 e2 e3 e4
        simp only at e0 e1 e2 e3 e4
        obtain ⟨b9, n9, c9, w9, hr, hq, hb, -⟩ := app_oneR w8 Z (.slice b8 n8 c8) _ y1 y2 y3 y4 y5 O8.out (by first | (have := LN.out; omega) | (have := LN.out; simp; omega)) hz
        have HA9 := Lib.hid hr
        have O9 := Lib.hid hq
        replace hz := Nat.le_trans hz hb.size
        replace K2 := Lib.hid ((hb.block G (by have := HZ.out; omega)).trans K2.out)
        replace HR := Lib.hid (HP.out.mono (B.out.trans (hb.mono (by have := HZ.out; have := HG.out; omega))))
        replace B := Lib.hid (B.out.trans (hb.mono (by have := HZ.out; have := HG.out; omega)))
        clear hr hq hb O8
        replace K2 := Lib.hid (show Blk w9 G 24 #[.int .i64 x1, .int .i64 x2, .string x3, .int .i64 x4, .int .i64 x5] from K2.out)
        go_wp2_with (at_builtin; refine wpList_app_run rfl _ _ 22 22 rfl _ _ _ w9 rfl rfl HA9.out ?_)
        clear m0 m1 m2 m3 m4 e0 e1 e2 e3 e4
        have OF := Lib.hid (show Ke.OwnA w9 Z (.slice b9 n9 c9) (putK l p false (x1, x2, x3, x4, x5) (k + 1)) by rw [HST.out]; exact O9.out)
        go_roundw
        case rel => exact ⟨k + 1, by omega, by go_num, by rw [decide_eq_true (by have := HKP.out; omega)], OF, hz, K2, B⟩
        case measure => simp [intOf]; omega
      · have e9 : decide (p < k) = true := decide_eq_true (by omega)
        have HST := Lib.hid (by have := putK_above l p false (x1, x2, x3, x4, x5) k hkp (by rw [HE.out]; exact hlt); rw [HY.out] at this; exact this)

        have gc := grow_cell3
        have zz2 := K2.out.lt
        have zq := block_lt_of_cell e0
        go_wp2_with fail
        refine wp_region_quiet_below (by kernel_rfl) (by kernel_rfl) ?_
        repeat (go_big_quiet_step (fail))
        refine wpQuiet_nil ?_
        intro w7 hw'
        obtain ⟨⟨dq, osq⟩, hw''⟩ := hw'
        have hb := below_of_grow3 hw''
        clear hw'' gc zz2 zq
        replace ho := Lib.hid (OwnR.below ho.out hb)
        replace hz := Nat.le_trans hz hb.size
        replace HR := Lib.hid (HR.out.mono hb)
        replace K2 := Lib.hid (K2.out.below hb K2.out.lt)
        replace B := Lib.hid (B.out.trans (hb.mono B.out.size))
        clear m0 m1 m2 m3 m4 e0 e1 e2 e3 e4
        clear hb
        obtain ⟨m0, m1, m2, m3, m4⟩ := five K2.out
        obtain ⟨e0, e1, e2, e3, e4⟩ := RwA.cells_ HR.out (k := k) (by rw [HE.out]; exact hlt) rfl
        rw [HY.out] at e0 e1 e2 e3 e4
        simp only at e0 e1 e2 e3 e4
        obtain ⟨b8, n8, c8, w8, hr, hq, hb, -⟩ := app_oneR w7 Z u5 _ y1 y2 y3 y4 y5 ho.out (by first | (have := LN.out; omega) | (have := LN.out; simp; omega)) hz
        have HA8 := Lib.hid hr
        have O8 := Lib.hid hq
        replace hz := Nat.le_trans hz hb.size
        replace K2 := Lib.hid ((hb.block G (by have := HZ.out; omega)).trans K2.out)
        replace HR := Lib.hid (HP.out.mono (B.out.trans (hb.mono (by have := HZ.out; have := HG.out; omega))))
        replace B := Lib.hid (B.out.trans (hb.mono (by have := HZ.out; have := HG.out; omega)))
        clear hr hq hb ho
        replace K2 := Lib.hid (show Blk w8 G 24 #[.int .i64 x1, .int .i64 x2, .string x3, .int .i64 x4, .int .i64 x5] from K2.out)
        go_wp2_with (at_builtin; refine wpList_app_run rfl _ _ 22 22 rfl _ _ _ w8 rfl rfl HA8.out ?_)
        clear m0 m1 m2 m3 m4 e0 e1 e2 e3 e4
        have OF := Lib.hid (show Ke.OwnA w8 Z (.slice b8 n8 c8) (putK l p false (x1, x2, x3, x4, x5) (k + 1)) by rw [HST.out]; exact O8.out)
        go_roundw
        case rel => exact ⟨k + 1, by omega, by go_num, by rw [decide_eq_true (by omega)], OF, hz, K2, B⟩
        case measure => simp [intOf]; omega
    · have hkN : N = k := by omega
      subst hkN
      clear hlt hk
      obtain ⟨m0, m1, m2, m3, m4⟩ := five K2.out
      by_cases hpN : p < N
      · have e9 : decide (p < N) = true := decide_eq_true hpN
        have ho2 := ho.out
        rw [HEND.out hpN] at ho2
        have O6 := Lib.hid ho2
        clear ho2 ho hpN
        go_wp2
        go_ret
        exact ⟨⟨_, rfl, OwnR.weak O6.out (by have := HZ.out; have := HG.out; omega)⟩, B.out⟩
      · have e9 : decide (p < N) = false := decide_eq_false hpN
        have hpE : p = N := by omega
        obtain ⟨a6, n6, c6, w1, hr1, ho1, hb1, -⟩ := app_oneR wr Z u5 _ x1 x2 x3 x4 x5 ho.out (by have := putK_len l p false (x1, x2, x3, x4, x5) N (by rw [HE.out]; exact Nat.le_refl _); omega) hz
        have HR1 := Lib.hid hr1
        rw [HLST.out hpE] at ho1
        have O6 := Lib.hid ho1
        replace B := Lib.hid (B.out.trans (hb1.mono (by have := HZ.out; have := HG.out; omega)))
        clear hr1 ho1 hb1 ho hpE hpN
        go_wp2_with (at_builtin; refine wpList_app_run rfl _ _ 22 22 rfl _ _ _ w1 rfl rfl HR1.out ?_)
        go_ret
        exact ⟨⟨_, rfl, OwnR.weak O6.out (by have := HZ.out; have := HG.out; omega)⟩, B.out⟩
end
section
open Go.RowKit Go.Sort
def RowsS (L : List Rw × Int) (w : World) (e : Ending) : Prop := ∃ a' c', e = .returned (.agg #[.slice a' L.1.length c', .int .i64 L.2]) ∧ RwA w a' L.1
theorem RowsS.nil (n : Int) (w : World) : RowsS ([], n) w (.returned (.agg #[.slice Option.none 0 0, .int .i64 n])) := ⟨Option.none, 0, rfl, RowsA.nil _ _ _ _⟩
theorem insert_rows (a : Option Addr) (c : Nat) (l : List Rw) (x : Rw) (w : World) (hp : RwA w a l) (hh : ¬ hasC (cR x.1 x.2.1) l = true) (hm : l.length ≤ 10000) :
    Calls Tryd.prog 60 #[.slice a l.length c, .agg (encR x).toArray] w fun e w' => (∃ a' c', e = .returned (.slice a' (insL l (posC (cR x.1 x.2.1) l) x).length c') ∧ RwA w' a' (insL l (posC (cR x.1 x.2.1) l) x) ∧ ∀ p, a' = some p → w.heap.size ≤ p.block) ∧ Below w.heap.size w w' :=
  (insert_any a c l x w hp hh hm).mono fun e w' ⟨⟨v, he, ho⟩, hb⟩ => by
    obtain ⟨a', c', e', -, hr⟩ := OwnR.view encR_len ho
    subst e'
    exact ⟨⟨a', c', he, hr, fun p hp => OwnR.block ho p hp⟩, hb⟩
set_option maxRecDepth 100000 in
set_option maxHeartbeats 2000000 in
theorem radd_bad (a : Option Addr) (c : Nat) (l : List Rw) (x : Rw) (w : World) (hp : RwA w a l) (ok : RingOk l) (ok2 : ¬ keyOk x) :
    Calls Tryd.prog 14 #[.slice a l.length c, .agg (encR x).toArray] w fun e w' => RowsS (addL l x) w' e ∧ Below w.heap.size w w' := by
  have HP := Lib.hid hp
  obtain ⟨k1, k2, k3, k4, k5⟩ := x
  obtain ⟨N, hN⟩ : ∃ N, l.length = N := ⟨_, rfl⟩
  have HE := Lib.hid hN
  have VA := Lib.hid (fun W : World => rvalid_any (k1, k2, k3, k4, k5) W)
  have FI := Lib.hid (fun (X : World) (h : RwA X a l) => rfind_any a c l k1 k2 X h ok.ord (by have := ok.few; omega))
  have hm := ok.few
  simp only [encR] at VA ⊢
  unfold addL
  rw [if_neg ok2]
  have v1 : keyB (k1, k2, k3, k4, k5) = false := decide_eq_false ok2
  rw [v1] at VA
  rw [hN]
  clear ok2 v1 hp hN ok hm FI
  go_enter Tryd.func14, Tryd.ntmps14
  obtain ⟨G, hG⟩ : ∃ G, w.heap.size = G := ⟨_, rfl⟩
  have HG := Lib.hid hG
  have Kk := Lib.hid (show Blk ((w.alloc (.cells #[.int .i64 k1, .int .i64 k2, .string k3, .int .i64 k4, .int .i64 k5] 24)).alloc (.cells #[.slice none 0 0, .int .i64 0] 34)) (G) 24 #[.int .i64 k1, .int .i64 k2, .string k3, .int .i64 k4, .int .i64 k5] from (Blk.new' _ _ _ _ hG rfl).alloc _)
  have Kr := Lib.hid (show Blk ((w.alloc (.cells #[.int .i64 k1, .int .i64 k2, .string k3, .int .i64 k4, .int .i64 k5] 24)).alloc (.cells #[.slice none 0 0, .int .i64 0] 34)) (G + 1) 34 #[.slice none 0 0, .int .i64 0] from Blk.new' _ _ _ _ (by rw [World.size_alloc, hG]) rfl)
  have B := Lib.hid (show Below w.heap.size w ((w.alloc (.cells #[.int .i64 k1, .int .i64 k2, .string k3, .int .i64 k4, .int .i64 k5] 24)).alloc (.cells #[.slice none 0 0, .int .i64 0] 34)) by (repeat' (first | (with_reducible exact Below.refl _ _) | (with_reducible assumption) | (with_reducible refine Below.alloc ?_ ?_ _) | (with_reducible refine Below.drew ?_) | (with_reducible refine below_dn ?_) | (with_reducible refine Below.setCell ?_ ?_ _) | (with_reducible exact Nat.le_refl _) | omega | (simp only [World.size_alloc, World.size_setCell, World.size_drew]; omega) | (simp; omega) | (simp; done))))
  go_upto_region 1 with (fail)
  try rw [hG]
  generalize hw0 : ((w.alloc (.cells #[.int .i64 k1, .int .i64 k2, .string k3, .int .i64 k4, .int .i64 k5] 24)).alloc (.cells #[.slice none 0 0, .int .i64 0] 34)) = w0 at Kk Kr B ⊢
  clear hw0 hG
  obtain ⟨bkc0, bkc1, bkc2, bkc3, bkc4⟩ := five Kk.out
  obtain ⟨brc0, brc1⟩ := twob Kr.out
  go_wp2_with fail
  refine (VA.out _).mono ?_
  rintro e w1 ⟨rfl, hb⟩
  replace Kk := Lib.hid (Kk.out.below hb Kk.out.lt)
  replace Kr := Lib.hid (Kr.out.below hb Kr.out.lt)
  replace B := Lib.hid (B.out.trans (hb.mono B.out.size))
  clear bkc0 bkc1 bkc2 bkc3 bkc4 brc0 brc1
  clear hb
  obtain ⟨bkc0, bkc1, bkc2, bkc3, bkc4⟩ := five Kk.out
  obtain ⟨brc0, brc1⟩ := twob Kr.out
  clear bkc0 bkc1 bkc2 bkc3 bkc4 brc0 brc1
  obtain ⟨bkc0, bkc1, bkc2, bkc3, bkc4⟩ := five Kk.out
  obtain ⟨brc0, brc1⟩ := twob Kr.out
  have fzr := fun q => Kr.out.frozen q
  go_wp2
  have K9 := Lib.hid (show Blk ((w1.setCell ⟨G + 1, 0, none⟩ (.slice none 0 0)).setCell ⟨G + 1, 1, none⟩ (.int .i64 1)) (G + 1) 34 #[.slice none 0 0, .int .i64 1] from ((Kr.out.set_ 0 (.slice none 0 0)).set_ 1 (.int .i64 1)))
  have B9 := ((B.out.setCell (p := ⟨G + 1, 0, none⟩) (show w.heap.size ≤ G + 1 by have := HG.out; omega) (.slice none 0 0)).setCell (p := ⟨G + 1, 1, none⟩) (show w.heap.size ≤ G + 1 by have := HG.out; omega) (.int .i64 1))
  generalize hw2 : ((w1.setCell ⟨G + 1, 0, none⟩ (.slice none 0 0)).setCell ⟨G + 1, 1, none⟩ (.int .i64 1)) = w9 at K9 B9 ⊢
  clear bkc0 bkc1 bkc2 bkc3 bkc4 brc0 brc1 fzr
  clear hw2
  obtain ⟨d0, d1⟩ := twob K9.out
  refine bodyPost_ret (by simp [results, Tryd.results14, go_sem, d0, d1]; try rfl) rfl ?_
  exact ⟨RowsS.nil 1 _, B9⟩
set_option maxRecDepth 100000 in
set_option maxHeartbeats 2000000 in
theorem radd_twice (a : Option Addr) (c : Nat) (l : List Rw) (x : Rw) (w : World) (hp : RwA w a l) (ok : RingOk l) (ok2 : keyOk x) (hh : hasC (cR x.1 x.2.1) l = true) :
    Calls Tryd.prog 14 #[.slice a l.length c, .agg (encR x).toArray] w fun e w' => RowsS (addL l x) w' e ∧ Below w.heap.size w w' := by
  have HP := Lib.hid hp
  obtain ⟨k1, k2, k3, k4, k5⟩ := x
  obtain ⟨N, hN⟩ : ∃ N, l.length = N := ⟨_, rfl⟩
  have HE := Lib.hid hN
  have VA := Lib.hid (fun W : World => rvalid_any (k1, k2, k3, k4, k5) W)
  have FI := Lib.hid (fun (X : World) (h : RwA X a l) => rfind_any a c l k1 k2 X h ok.ord (by have := ok.few; omega))
  have hm := ok.few
  simp only [encR] at VA ⊢
  unfold addL
  rw [if_pos ok2]
  have v1 : keyB (k1, k2, k3, k4, k5) = true := decide_eq_true ok2
  rw [v1] at VA
  simp only
  simp only [hN] at FI
  rw [hN] at hm
  simp only at hh
  obtain ⟨y, hy⟩ : ∃ y, findL l k1 k2 = y := ⟨_, rfl⟩
  obtain ⟨q1, q2⟩ := find_yes hh
  simp only [q2, hy] at FI
  obtain ⟨f1, f2, f3, f4, f5⟩ := y
  simp only [encR, List.cons_append, List.nil_append] at FI
  rw [hh, if_pos rfl, hN]
  clear ok2 v1 hp hN ok hm hh hy q1 q2
  go_enter Tryd.func14, Tryd.ntmps14
  obtain ⟨G, hG⟩ : ∃ G, w.heap.size = G := ⟨_, rfl⟩
  have HG := Lib.hid hG
  have Kk := Lib.hid (show Blk ((w.alloc (.cells #[.int .i64 k1, .int .i64 k2, .string k3, .int .i64 k4, .int .i64 k5] 24)).alloc (.cells #[.slice none 0 0, .int .i64 0] 34)) (G) 24 #[.int .i64 k1, .int .i64 k2, .string k3, .int .i64 k4, .int .i64 k5] from (Blk.new' _ _ _ _ hG rfl).alloc _)
  have Kr := Lib.hid (show Blk ((w.alloc (.cells #[.int .i64 k1, .int .i64 k2, .string k3, .int .i64 k4, .int .i64 k5] 24)).alloc (.cells #[.slice none 0 0, .int .i64 0] 34)) (G + 1) 34 #[.slice none 0 0, .int .i64 0] from Blk.new' _ _ _ _ (by rw [World.size_alloc, hG]) rfl)
  have B := Lib.hid (show Below w.heap.size w ((w.alloc (.cells #[.int .i64 k1, .int .i64 k2, .string k3, .int .i64 k4, .int .i64 k5] 24)).alloc (.cells #[.slice none 0 0, .int .i64 0] 34)) by (repeat' (first | (with_reducible exact Below.refl _ _) | (with_reducible assumption) | (with_reducible refine Below.alloc ?_ ?_ _) | (with_reducible refine Below.drew ?_) | (with_reducible refine below_dn ?_) | (with_reducible refine Below.setCell ?_ ?_ _) | (with_reducible exact Nat.le_refl _) | omega | (simp only [World.size_alloc, World.size_setCell, World.size_drew]; omega) | (simp; omega) | (simp; done))))
  go_upto_region 1 with (fail)
  try rw [hG]
  generalize hw0 : ((w.alloc (.cells #[.int .i64 k1, .int .i64 k2, .string k3, .int .i64 k4, .int .i64 k5] 24)).alloc (.cells #[.slice none 0 0, .int .i64 0] 34)) = w0 at Kk Kr B ⊢
  clear hw0 hG
  obtain ⟨bkc0, bkc1, bkc2, bkc3, bkc4⟩ := five Kk.out
  obtain ⟨brc0, brc1⟩ := twob Kr.out
  go_wp2_with fail
  refine (VA.out _).mono ?_
  rintro e w1 ⟨rfl, hb⟩
  replace Kk := Lib.hid (Kk.out.below hb Kk.out.lt)
  replace Kr := Lib.hid (Kr.out.below hb Kr.out.lt)
  replace B := Lib.hid (B.out.trans (hb.mono B.out.size))
  clear bkc0 bkc1 bkc2 bkc3 bkc4 brc0 brc1
  clear hb
  obtain ⟨bkc0, bkc1, bkc2, bkc3, bkc4⟩ := five Kk.out
  obtain ⟨brc0, brc1⟩ := twob Kr.out
  go_wp2_with fail
  refine (FI.out _ (HP.out.mono B.out)).mono ?_
  rintro e w2 ⟨rfl, hb⟩
  replace Kk := Lib.hid (Kk.out.below hb Kk.out.lt)
  replace Kr := Lib.hid (Kr.out.below hb Kr.out.lt)
  replace B := Lib.hid (B.out.trans (hb.mono B.out.size))
  clear bkc0 bkc1 bkc2 bkc3 bkc4 brc0 brc1
  clear hb
  obtain ⟨bkc0, bkc1, bkc2, bkc3, bkc4⟩ := five Kk.out
  obtain ⟨brc0, brc1⟩ := twob Kr.out
  obtain ⟨gf, hgf⟩ : ∃ G, w2.heap.size = G := ⟨_, rfl⟩
  have Kf := Lib.hid (show Blk (w2.alloc (.cells #[.int .i64 f1, .int .i64 f2, .string f3, .int .i64 f4, .int .i64 f5, .int .i64 0] 40)) gf 40 #[.int .i64 f1, .int .i64 f2, .string f3, .int .i64 f4, .int .i64 f5, .int .i64 0] from Blk.new' w2 _ _ _ hgf rfl)
  have Nkf := Lib.hid (show G < gf from by rw [← hgf]; exact Kk.out.lt)
  replace Kk := Lib.hid (Kk.out.alloc (.cells #[.int .i64 f1, .int .i64 f2, .string f3, .int .i64 f4, .int .i64 f5, .int .i64 0] 40))
  have Nrf := Lib.hid (show G + 1 < gf from by rw [← hgf]; exact Kr.out.lt)
  replace Kr := Lib.hid (Kr.out.alloc (.cells #[.int .i64 f1, .int .i64 f2, .string f3, .int .i64 f4, .int .i64 f5, .int .i64 0] 40))
  have Lf := Lib.hid (show w.heap.size ≤ gf from by rw [← hgf]; exact B.out.size)
  replace B := Lib.hid (B.out.alloc B.out.size (.cells #[.int .i64 f1, .int .i64 f2, .string f3, .int .i64 f4, .int .i64 f5, .int .i64 0] 40))
  go_upto_region 5 with (fail)
  try rw [hgf]
  generalize hw : w2.alloc (.cells #[.int .i64 f1, .int .i64 f2, .string f3, .int .i64 f4, .int .i64 f5, .int .i64 0] 40) = w3 at Kk Kr Kf  B ⊢
  clear bkc0 bkc1 bkc2 bkc3 bkc4 brc0 brc1
  clear hw hgf
  obtain ⟨bkc0, bkc1, bkc2, bkc3, bkc4⟩ := five Kk.out
  obtain ⟨brc0, brc1⟩ := twob Kr.out
  obtain ⟨bfc0, bfc1, bfc2, bfc3, bfc4, bfc5⟩ := six Kf.out
  clear bkc0 bkc1 bkc2 bkc3 bkc4 brc0 brc1 bfc0 bfc1 bfc2 bfc3 bfc4 bfc5
  obtain ⟨bkc0, bkc1, bkc2, bkc3, bkc4⟩ := five Kk.out
  obtain ⟨brc0, brc1⟩ := twob Kr.out
  obtain ⟨bfc0, bfc1, bfc2, bfc3, bfc4, bfc5⟩ := six Kf.out
  have fzr := fun q => Kr.out.frozen q
  go_wp2
  have K9 := Lib.hid (show Blk ((w3.setCell ⟨G + 1, 0, none⟩ (.slice none 0 0)).setCell ⟨G + 1, 1, none⟩ (.int .i64 6)) (G + 1) 34 #[.slice none 0 0, .int .i64 6] from ((Kr.out.set_ 0 (.slice none 0 0)).set_ 1 (.int .i64 6)))
  have B9 := ((B.out.setCell (p := ⟨G + 1, 0, none⟩) (show w.heap.size ≤ G + 1 by have := HG.out; omega) (.slice none 0 0)).setCell (p := ⟨G + 1, 1, none⟩) (show w.heap.size ≤ G + 1 by have := HG.out; omega) (.int .i64 6))
  generalize hw2 : ((w3.setCell ⟨G + 1, 0, none⟩ (.slice none 0 0)).setCell ⟨G + 1, 1, none⟩ (.int .i64 6)) = w9 at K9 B9 ⊢
  clear bkc0 bkc1 bkc2 bkc3 bkc4 brc0 brc1 bfc0 bfc1 bfc2 bfc3 bfc4 bfc5 fzr
  clear hw2
  obtain ⟨d0, d1⟩ := twob K9.out
  refine bodyPost_ret (by simp [results, Tryd.results14, go_sem, d0, d1]; try rfl) rfl ?_
  exact ⟨RowsS.nil 6 _, B9⟩
set_option maxRecDepth 100000 in
set_option maxHeartbeats 2000000 in
theorem radd_limit (a : Option Addr) (c : Nat) (l : List Rw) (x : Rw) (w : World) (hp : RwA w a l) (ok : RingOk l) (ok2 : keyOk x) (hh : ¬ hasC (cR x.1 x.2.1) l = true) (hlim : 1000 ≤ l.length) :
    Calls Tryd.prog 14 #[.slice a l.length c, .agg (encR x).toArray] w fun e w' => RowsS (addL l x) w' e ∧ Below w.heap.size w w' := by
  have HP := Lib.hid hp
  obtain ⟨k1, k2, k3, k4, k5⟩ := x
  obtain ⟨N, hN⟩ : ∃ N, l.length = N := ⟨_, rfl⟩
  have HE := Lib.hid hN
  have VA := Lib.hid (fun W : World => rvalid_any (k1, k2, k3, k4, k5) W)
  have FI := Lib.hid (fun (X : World) (h : RwA X a l) => rfind_any a c l k1 k2 X h ok.ord (by have := ok.few; omega))
  have hm := ok.few
  simp only [encR] at VA ⊢
  unfold addL
  rw [if_pos ok2]
  have v1 : keyB (k1, k2, k3, k4, k5) = true := decide_eq_true ok2
  rw [v1] at VA
  simp only
  simp only [hN] at FI
  rw [hN] at hm
  have hf : ¬ hasC (cR k1 k2) l = true := hh
  obtain ⟨q1, q2⟩ := find_no hf
  simp only [q1, q2, encR, List.cons_append, List.nil_append] at FI
  rw [if_neg hf, if_pos hlim, hN]
  rw [hN] at hlim
  have t9 : decide ((1000 : Int) ≤ (N : Int)) = true := decide_eq_true (by omega)
  clear ok2 v1 hp hN ok hm hh hf q1 q2 hlim
  go_enter Tryd.func14, Tryd.ntmps14
  obtain ⟨G, hG⟩ : ∃ G, w.heap.size = G := ⟨_, rfl⟩
  have HG := Lib.hid hG
  have Kk := Lib.hid (show Blk ((w.alloc (.cells #[.int .i64 k1, .int .i64 k2, .string k3, .int .i64 k4, .int .i64 k5] 24)).alloc (.cells #[.slice none 0 0, .int .i64 0] 34)) (G) 24 #[.int .i64 k1, .int .i64 k2, .string k3, .int .i64 k4, .int .i64 k5] from (Blk.new' _ _ _ _ hG rfl).alloc _)
  have Kr := Lib.hid (show Blk ((w.alloc (.cells #[.int .i64 k1, .int .i64 k2, .string k3, .int .i64 k4, .int .i64 k5] 24)).alloc (.cells #[.slice none 0 0, .int .i64 0] 34)) (G + 1) 34 #[.slice none 0 0, .int .i64 0] from Blk.new' _ _ _ _ (by rw [World.size_alloc, hG]) rfl)
  have B := Lib.hid (show Below w.heap.size w ((w.alloc (.cells #[.int .i64 k1, .int .i64 k2, .string k3, .int .i64 k4, .int .i64 k5] 24)).alloc (.cells #[.slice none 0 0, .int .i64 0] 34)) by (repeat' (first | (with_reducible exact Below.refl _ _) | (with_reducible assumption) | (with_reducible refine Below.alloc ?_ ?_ _) | (with_reducible refine Below.drew ?_) | (with_reducible refine below_dn ?_) | (with_reducible refine Below.setCell ?_ ?_ _) | (with_reducible exact Nat.le_refl _) | omega | (simp only [World.size_alloc, World.size_setCell, World.size_drew]; omega) | (simp; omega) | (simp; done))))
  go_upto_region 1 with (fail)
  try rw [hG]
  generalize hw0 : ((w.alloc (.cells #[.int .i64 k1, .int .i64 k2, .string k3, .int .i64 k4, .int .i64 k5] 24)).alloc (.cells #[.slice none 0 0, .int .i64 0] 34)) = w0 at Kk Kr B ⊢
  clear hw0 hG
  obtain ⟨bkc0, bkc1, bkc2, bkc3, bkc4⟩ := five Kk.out
  obtain ⟨brc0, brc1⟩ := twob Kr.out
  go_wp2_with fail
  refine (VA.out _).mono ?_
  rintro e w1 ⟨rfl, hb⟩
  replace Kk := Lib.hid (Kk.out.below hb Kk.out.lt)
  replace Kr := Lib.hid (Kr.out.below hb Kr.out.lt)
  replace B := Lib.hid (B.out.trans (hb.mono B.out.size))
  clear bkc0 bkc1 bkc2 bkc3 bkc4 brc0 brc1
  clear hb
  obtain ⟨bkc0, bkc1, bkc2, bkc3, bkc4⟩ := five Kk.out
  obtain ⟨brc0, brc1⟩ := twob Kr.out
  go_wp2_with fail
  refine (FI.out _ (HP.out.mono B.out)).mono ?_
  rintro e w2 ⟨rfl, hb⟩
  replace Kk := Lib.hid (Kk.out.below hb Kk.out.lt)
  replace Kr := Lib.hid (Kr.out.below hb Kr.out.lt)
  replace B := Lib.hid (B.out.trans (hb.mono B.out.size))
  clear bkc0 bkc1 bkc2 bkc3 bkc4 brc0 brc1
  clear hb
  obtain ⟨bkc0, bkc1, bkc2, bkc3, bkc4⟩ := five Kk.out
  obtain ⟨brc0, brc1⟩ := twob Kr.out
  obtain ⟨gf, hgf⟩ : ∃ G, w2.heap.size = G := ⟨_, rfl⟩
  have Kf := Lib.hid (show Blk (w2.alloc (.cells #[.int .i64 0, .int .i64 0, .string ⟨#[]⟩, .int .i64 0, .int .i64 0, .int .i64 5] 40)) gf 40 #[.int .i64 0, .int .i64 0, .string ⟨#[]⟩, .int .i64 0, .int .i64 0, .int .i64 5] from Blk.new' w2 _ _ _ hgf rfl)
  have Nkf := Lib.hid (show G < gf from by rw [← hgf]; exact Kk.out.lt)
  replace Kk := Lib.hid (Kk.out.alloc (.cells #[.int .i64 0, .int .i64 0, .string ⟨#[]⟩, .int .i64 0, .int .i64 0, .int .i64 5] 40))
  have Nrf := Lib.hid (show G + 1 < gf from by rw [← hgf]; exact Kr.out.lt)
  replace Kr := Lib.hid (Kr.out.alloc (.cells #[.int .i64 0, .int .i64 0, .string ⟨#[]⟩, .int .i64 0, .int .i64 0, .int .i64 5] 40))
  have Lf := Lib.hid (show w.heap.size ≤ gf from by rw [← hgf]; exact B.out.size)
  replace B := Lib.hid (B.out.alloc B.out.size (.cells #[.int .i64 0, .int .i64 0, .string ⟨#[]⟩, .int .i64 0, .int .i64 0, .int .i64 5] 40))
  go_upto_region 5 with (fail)
  try rw [hgf]
  generalize hw : w2.alloc (.cells #[.int .i64 0, .int .i64 0, .string ⟨#[]⟩, .int .i64 0, .int .i64 0, .int .i64 5] 40) = w3 at Kk Kr Kf  B ⊢
  clear bkc0 bkc1 bkc2 bkc3 bkc4 brc0 brc1
  clear hw hgf
  obtain ⟨bkc0, bkc1, bkc2, bkc3, bkc4⟩ := five Kk.out
  obtain ⟨brc0, brc1⟩ := twob Kr.out
  obtain ⟨bfc0, bfc1, bfc2, bfc3, bfc4, bfc5⟩ := six Kf.out
  clear bkc0 bkc1 bkc2 bkc3 bkc4 brc0 brc1 bfc0 bfc1 bfc2 bfc3 bfc4 bfc5
  obtain ⟨bkc0, bkc1, bkc2, bkc3, bkc4⟩ := five Kk.out
  obtain ⟨brc0, brc1⟩ := twob Kr.out
  obtain ⟨bfc0, bfc1, bfc2, bfc3, bfc4, bfc5⟩ := six Kf.out
  have fzr := fun q => Kr.out.frozen q
  go_wp2
  have K9 := Lib.hid (show Blk ((w3.setCell ⟨G + 1, 0, none⟩ (.slice none 0 0)).setCell ⟨G + 1, 1, none⟩ (.int .i64 2)) (G + 1) 34 #[.slice none 0 0, .int .i64 2] from ((Kr.out.set_ 0 (.slice none 0 0)).set_ 1 (.int .i64 2)))
  have B9 := ((B.out.setCell (p := ⟨G + 1, 0, none⟩) (show w.heap.size ≤ G + 1 by have := HG.out; omega) (.slice none 0 0)).setCell (p := ⟨G + 1, 1, none⟩) (show w.heap.size ≤ G + 1 by have := HG.out; omega) (.int .i64 2))
  generalize hw2 : ((w3.setCell ⟨G + 1, 0, none⟩ (.slice none 0 0)).setCell ⟨G + 1, 1, none⟩ (.int .i64 2)) = w9 at K9 B9 ⊢
  clear bkc0 bkc1 bkc2 bkc3 bkc4 brc0 brc1 bfc0 bfc1 bfc2 bfc3 bfc4 bfc5 fzr
  clear hw2
  obtain ⟨d0, d1⟩ := twob K9.out
  refine bodyPost_ret (by simp [results, Tryd.results14, go_sem, d0, d1]; try rfl) rfl ?_
  exact ⟨RowsS.nil 2 _, B9⟩
set_option maxRecDepth 100000 in
set_option maxHeartbeats 2000000 in
theorem radd_ok (a : Option Addr) (c : Nat) (l : List Rw) (x : Rw) (w : World) (hp : RwA w a l) (ok : RingOk l) (ok2 : keyOk x) (hh : ¬ hasC (cR x.1 x.2.1) l = true) (hlim : ¬ 1000 ≤ l.length) :
    Calls Tryd.prog 14 #[.slice a l.length c, .agg (encR x).toArray] w fun e w' => RowsS (addL l x) w' e ∧ Below w.heap.size w w' := by
  have HP := Lib.hid hp
  obtain ⟨k1, k2, k3, k4, k5⟩ := x
  obtain ⟨N, hN⟩ : ∃ N, l.length = N := ⟨_, rfl⟩
  have HE := Lib.hid hN
  have VA := Lib.hid (fun W : World => rvalid_any (k1, k2, k3, k4, k5) W)
  have FI := Lib.hid (fun (X : World) (h : RwA X a l) => rfind_any a c l k1 k2 X h ok.ord (by have := ok.few; omega))
  have hm := ok.few
  simp only [encR] at VA ⊢
  unfold addL
  rw [if_pos ok2]
  have v1 : keyB (k1, k2, k3, k4, k5) = true := decide_eq_true ok2
  rw [v1] at VA
  simp only
  simp only [hN] at FI
  rw [hN] at hm
  have hf : ¬ hasC (cR k1 k2) l = true := hh
  obtain ⟨q1, q2⟩ := find_no hf
  simp only [q1, q2, encR, List.cons_append, List.nil_append] at FI
  rw [if_neg hf, if_neg hlim, hN]
  rw [hN] at hlim
  have t9 : decide ((1000 : Int) ≤ (N : Int)) = false := decide_eq_false (by omega)
  have IN := Lib.hid (fun (X : World) (h : RwA X a l) => insert_rows a c l (k1, k2, k3, k4, k5) X h hf (by omega))
  simp only [encR] at IN
  obtain ⟨L, hL⟩ : ∃ z, insL l (posC (cR k1 k2) l) (k1, k2, k3, k4, k5) = z := ⟨_, rfl⟩
  obtain ⟨M, hM⟩ : ∃ M, L.length = M := ⟨_, rfl⟩
  simp only [hL, hM, hN] at IN
  rw [hL]
  have HM := Lib.hid hM
  clear ok2 v1 hp hN ok hm hh hf q1 q2 hlim hL hM
  go_enter Tryd.func14, Tryd.ntmps14
  obtain ⟨G, hG⟩ : ∃ G, w.heap.size = G := ⟨_, rfl⟩
  have HG := Lib.hid hG
  have Kk := Lib.hid (show Blk ((w.alloc (.cells #[.int .i64 k1, .int .i64 k2, .string k3, .int .i64 k4, .int .i64 k5] 24)).alloc (.cells #[.slice none 0 0, .int .i64 0] 34)) (G) 24 #[.int .i64 k1, .int .i64 k2, .string k3, .int .i64 k4, .int .i64 k5] from (Blk.new' _ _ _ _ hG rfl).alloc _)
  have Kr := Lib.hid (show Blk ((w.alloc (.cells #[.int .i64 k1, .int .i64 k2, .string k3, .int .i64 k4, .int .i64 k5] 24)).alloc (.cells #[.slice none 0 0, .int .i64 0] 34)) (G + 1) 34 #[.slice none 0 0, .int .i64 0] from Blk.new' _ _ _ _ (by rw [World.size_alloc, hG]) rfl)
  have B := Lib.hid (show Below w.heap.size w ((w.alloc (.cells #[.int .i64 k1, .int .i64 k2, .string k3, .int .i64 k4, .int .i64 k5] 24)).alloc (.cells #[.slice none 0 0, .int .i64 0] 34)) by (repeat' (first | (with_reducible exact Below.refl _ _) | (with_reducible assumption) | (with_reducible refine Below.alloc ?_ ?_ _) | (with_reducible refine Below.drew ?_) | (with_reducible refine below_dn ?_) | (with_reducible refine Below.setCell ?_ ?_ _) | (with_reducible exact Nat.le_refl _) | omega | (simp only [World.size_alloc, World.size_setCell, World.size_drew]; omega) | (simp; omega) | (simp; done))))
  go_upto_region 1 with (fail)
  try rw [hG]
  generalize hw0 : ((w.alloc (.cells #[.int .i64 k1, .int .i64 k2, .string k3, .int .i64 k4, .int .i64 k5] 24)).alloc (.cells #[.slice none 0 0, .int .i64 0] 34)) = w0 at Kk Kr B ⊢
  clear hw0 hG
  obtain ⟨bkc0, bkc1, bkc2, bkc3, bkc4⟩ := five Kk.out
  obtain ⟨brc0, brc1⟩ := twob Kr.out
  go_wp2_with fail
  refine (VA.out _).mono ?_
  rintro e w1 ⟨rfl, hb⟩
  replace Kk := Lib.hid (Kk.out.below hb Kk.out.lt)
  replace Kr := Lib.hid (Kr.out.below hb Kr.out.lt)
  replace B := Lib.hid (B.out.trans (hb.mono B.out.size))
  clear bkc0 bkc1 bkc2 bkc3 bkc4 brc0 brc1
  clear hb
  obtain ⟨bkc0, bkc1, bkc2, bkc3, bkc4⟩ := five Kk.out
  obtain ⟨brc0, brc1⟩ := twob Kr.out
  go_wp2_with fail
  refine (FI.out _ (HP.out.mono B.out)).mono ?_
  rintro e w2 ⟨rfl, hb⟩
  replace Kk := Lib.hid (Kk.out.below hb Kk.out.lt)
  replace Kr := Lib.hid (Kr.out.below hb Kr.out.lt)
  replace B := Lib.hid (B.out.trans (hb.mono B.out.size))
  clear bkc0 bkc1 bkc2 bkc3 bkc4 brc0 brc1
  clear hb
  obtain ⟨bkc0, bkc1, bkc2, bkc3, bkc4⟩ := five Kk.out
  obtain ⟨brc0, brc1⟩ := twob Kr.out
  obtain ⟨gf, hgf⟩ : ∃ G, w2.heap.size = G := ⟨_, rfl⟩
  have Kf := Lib.hid (show Blk (w2.alloc (.cells #[.int .i64 0, .int .i64 0, .string ⟨#[]⟩, .int .i64 0, .int .i64 0, .int .i64 5] 40)) gf 40 #[.int .i64 0, .int .i64 0, .string ⟨#[]⟩, .int .i64 0, .int .i64 0, .int .i64 5] from Blk.new' w2 _ _ _ hgf rfl)
  have Nkf := Lib.hid (show G < gf from by rw [← hgf]; exact Kk.out.lt)
  replace Kk := Lib.hid (Kk.out.alloc (.cells #[.int .i64 0, .int .i64 0, .string ⟨#[]⟩, .int .i64 0, .int .i64 0, .int .i64 5] 40))
  have Nrf := Lib.hid (show G + 1 < gf from by rw [← hgf]; exact Kr.out.lt)
  replace Kr := Lib.hid (Kr.out.alloc (.cells #[.int .i64 0, .int .i64 0, .string ⟨#[]⟩, .int .i64 0, .int .i64 0, .int .i64 5] 40))
  have Lf := Lib.hid (show w.heap.size ≤ gf from by rw [← hgf]; exact B.out.size)
  replace B := Lib.hid (B.out.alloc B.out.size (.cells #[.int .i64 0, .int .i64 0, .string ⟨#[]⟩, .int .i64 0, .int .i64 0, .int .i64 5] 40))
  go_upto_region 5 with (fail)
  try rw [hgf]
  generalize hw : w2.alloc (.cells #[.int .i64 0, .int .i64 0, .string ⟨#[]⟩, .int .i64 0, .int .i64 0, .int .i64 5] 40) = w3 at Kk Kr Kf  B ⊢
  clear bkc0 bkc1 bkc2 bkc3 bkc4 brc0 brc1
  clear hw hgf
  obtain ⟨bkc0, bkc1, bkc2, bkc3, bkc4⟩ := five Kk.out
  obtain ⟨brc0, brc1⟩ := twob Kr.out
  obtain ⟨bfc0, bfc1, bfc2, bfc3, bfc4, bfc5⟩ := six Kf.out
  have Qr := Lib.hid Kr.out.lt
  go_wp2_with fail
  refine (IN.out _ (HP.out.mono B.out)).mono ?_
  rintro e w4 ⟨⟨ap, cp, rfl, hr, hf⟩, hb⟩
  have Zp := Lib.hid hr
  have Fp := Lib.hid hf
  replace Kk := Lib.hid (Kk.out.below hb Kk.out.lt)
  replace Kr := Lib.hid (Kr.out.below hb Kr.out.lt)
  replace Kf := Lib.hid (Kf.out.below hb Kf.out.lt)
  replace B := Lib.hid (B.out.trans (hb.mono B.out.size))
  clear bkc0 bkc1 bkc2 bkc3 bkc4 brc0 brc1 bfc0 bfc1 bfc2 bfc3 bfc4 bfc5
  clear hb hr hf
  obtain ⟨bkc0, bkc1, bkc2, bkc3, bkc4⟩ := five Kk.out
  obtain ⟨brc0, brc1⟩ := twob Kr.out
  obtain ⟨bfc0, bfc1, bfc2, bfc3, bfc4, bfc5⟩ := six Kf.out
  have Rp := Zp
  clear Zp
  have Epr := Lib.hid (show ∀ p, ap = some p → p.block ≠ G + 1 from fun p hp => by have h1 := Fp.out p hp; have h2 := Qr.out; omega)
  clear Fp Qr
  clear bkc0 bkc1 bkc2 bkc3 bkc4 brc0 brc1 bfc0 bfc1 bfc2 bfc3 bfc4 bfc5
  obtain ⟨bkc0, bkc1, bkc2, bkc3, bkc4⟩ := five Kk.out
  obtain ⟨brc0, brc1⟩ := twob Kr.out
  obtain ⟨bfc0, bfc1, bfc2, bfc3, bfc4, bfc5⟩ := six Kf.out
  have fzr := fun q => Kr.out.frozen q
  go_wp2
  have K9 := Lib.hid (show Blk ((w4.setCell ⟨G + 1, 0, none⟩ (.slice ap M cp)).setCell ⟨G + 1, 1, none⟩ (.int .i64 0)) (G + 1) 34 #[.slice ap M cp, .int .i64 0] from ((Kr.out.set_ 0 (.slice ap M cp)).set_ 1 (.int .i64 0)))
  have B9 := ((B.out.setCell (p := ⟨G + 1, 0, none⟩) (show w.heap.size ≤ G + 1 by have := HG.out; omega) (.slice ap M cp)).setCell (p := ⟨G + 1, 1, none⟩) (show w.heap.size ≤ G + 1 by have := HG.out; omega) (.int .i64 0))
  have Sp := (RowsA.far (RowsA.far Rp.out (p := ⟨G + 1, 0, none⟩) (Epr.out) (.slice ap M cp)) (p := ⟨G + 1, 1, none⟩) (Epr.out) (.int .i64 0))
  generalize hw2 : ((w4.setCell ⟨G + 1, 0, none⟩ (.slice ap M cp)).setCell ⟨G + 1, 1, none⟩ (.int .i64 0)) = w9 at K9 B9 Sp ⊢
  clear bkc0 bkc1 bkc2 bkc3 bkc4 brc0 brc1 bfc0 bfc1 bfc2 bfc3 bfc4 bfc5 fzr
  clear hw2
  obtain ⟨d0, d1⟩ := twob K9.out
  refine bodyPost_ret (by simp [results, Tryd.results14, go_sem, d0, d1]; try rfl) rfl ?_
  exact ⟨⟨ap, cp, by rw [HM.out], Sp⟩, B9⟩
theorem radd_any (a : Option Addr) (c : Nat) (l : List Rw) (x : Rw) (w : World) (hp : RwA w a l) (ok : RingOk l) :
    Calls Tryd.prog 14 #[.slice a l.length c, .agg (encR x).toArray] w fun e w' => RowsS (addL l x) w' e ∧ Below w.heap.size w w' := by
  by_cases ok2 : keyOk x
  · by_cases hh : hasC (cR x.1 x.2.1) l = true
    · exact radd_twice a c l x w hp ok ok2 hh
    · by_cases hlim : 1000 ≤ l.length
      · exact radd_limit a c l x w hp ok ok2 hh hlim
      · exact radd_ok a c l x w hp ok ok2 hh hlim
  · exact radd_bad a c l x w hp ok ok2
set_option maxRecDepth 100000 in
set_option maxHeartbeats 2000000 in
theorem same_any (a b : Option Addr) (c c2 : Nat) (l : List Rw) (w : World) (hp : RwA w a l) (hq : RwA w b l) (hm : l.length ≤ 9223372036854775807) :
    Calls Tryd.prog 15 #[.slice a l.length c, .slice b l.length c2] w fun e w' => e = .returned (.bool true) ∧ Below w.heap.size w w' := by
  have HP := Lib.hid hp
  have HQ := Lib.hid hq
  obtain ⟨N, hN⟩ : ∃ N, l.length = N := ⟨_, rfl⟩
  have HE := Lib.hid hN
  rw [hN] at hm ⊢
  clear hp hq hN
  have n0 : ((N : Int) != (N : Int)) = false := by simp
  go_enter Tryd.func15, Tryd.ntmps15
  go_wp2
  go_loopw [5] (fun u5 wr => ∃ k : Nat, k ≤ N ∧ u5 = .int .i64 k ∧ Hid (Below w.heap.size w wr)) (fun u5 _ => (N - intOf u5).toNat)
  case atStart => exact ⟨0, by omega, rfl, Lib.hid (Below.refl _ _)⟩
  case round =>
    obtain ⟨k, hk, rfl, B⟩ := hrel
    by_cases hlt : k < N
    · have t0 : decide ((k : Int) < (N : Int)) = true := decide_eq_true (by omega)
      have wk : IntKind.i64.wrap ((k : Int) + 1) = (k : Int) + 1 := by rw [IntKind.wrap_i64]; omega
      obtain ⟨o1, f1, rfl, q0, q1, q2, q3, q4⟩ := RwA.at_ (HP.out.mono B.out) (k := k) (by rw [HE.out]; exact hlt)
      obtain ⟨o2, f2, rfl, s0, s1, s2, s3, s4⟩ := RwA.at_ (HQ.out.mono B.out) (k := k) (by rw [HE.out]; exact hlt)
      obtain ⟨x, hx⟩ : ∃ y, l.getD k r0 = y := ⟨_, rfl⟩
      rw [hx] at q0 q1 q2 q3 q4 s0 s1 s2 s3 s4
      clear hx
      obtain ⟨x1, x2, x3, x4, x5⟩ := x
      simp only at q0 q1 q2 q3 q4 s0 s1 s2 s3 s4
      have k0 : (0 : Int) ≤ (k : Int) := by omega
      have kN : (k : Int) < (N : Int) := by omega
      go_wp2
      go_quiet (fail)
      go_wp2
      go_roundw
      case rel => exact ⟨k + 1, by omega, by go_num, Lib.hid (below_dn B.out)⟩
      case measure => simp [intOf]; omega
    · obtain rfl : k = N := by omega
      go_wp2
      go_ret
      exact ⟨rfl, B.out⟩
end
section
open Go.RowKit
theorem flat_set : ∀ (l : List Rw) (i j : Nat) (u : Value) (x : Rw), i < l.length → j < 5 → encR x = (encR (l.getD i r0)).set j u → (l.flatMap encR).set (i * 5 + j) u = (l.set i x).flatMap encR
  | [], i, j, u, x, h, _, _ => absurd h (by simp)
  | a :: l, 0, j, u, x, _, hj, h => by
    simp only [List.flatMap_cons, List.set_cons_zero, List.getD_cons_zero] at h ⊢
    rw [Nat.zero_mul, Nat.zero_add, List.set_append_left _ _ (by rw [encR_len]; exact hj), h]
  | a :: l, i + 1, j, u, x, hi, hj, h => by
    simp only [List.flatMap_cons, List.set_cons_succ, List.getD_cons_succ] at h ⊢
    rw [List.set_append_right _ _ (by rw [encR_len]; omega), encR_len, show (i + 1) * 5 + j - 5 = i * 5 + j by omega, flat_set l i j u x (by simpa using hi) hj h]
section
variable {W : World} {e B n cap : Nat} {a : Option Addr} {l : List Rw}
theorem own_at (h : OwnR e 5 encR W B (.slice a n cap) l) {i : Nat} (hi : i < l.length) :
    ∃ g, a = some ⟨g, 0, none⟩ ∧ n = l.length ∧ B ≤ g ∧ W.cell? ⟨g, i * 5, none⟩ = some (.int .i64 (l.getD i r0).1) ∧ W.cell? ⟨g, i * 5 + 1, none⟩ = some (.int .i64 (l.getD i r0).2.1) ∧ W.cell? ⟨g, i * 5 + 2, none⟩ = some (.string (l.getD i r0).2.2.1) ∧
      W.cell? ⟨g, i * 5 + 3, none⟩ = some (.int .i64 (l.getD i r0).2.2.2.1) ∧ W.cell? ⟨g, i * 5 + 4, none⟩ = some (.int .i64 (l.getD i r0).2.2.2.2) ∧ ∀ j, W.frozen? ⟨g, j, none⟩ = false := by
  rcases h.2 with ⟨-, h1⟩ | ⟨g, cap', cur, e', hB, hg, -⟩
  · rw [h1] at hi; simp at hi
  · injection e' with e1 e2 e3
    subst e1; subst e2; subst e3
    have hx : l[i]? = some (l.getD i r0) := by rw [List.getElem?_eq_getElem hi, getD_at r0 hi]
    have at_ : ∀ j, j < 5 → W.cell? ⟨g, i * 5 + j, none⟩ = (encR (l.getD i r0))[j]? := fun j hj => by
      rw [World.ownsRow.cellAt h (i * 5 + j) (by omega), flat_at encR_len l i j hj, hx]; rfl
    exact ⟨g, rfl, rfl, hB, at_ 0 (by decide), at_ 1 (by decide), at_ 2 (by decide), at_ 3 (by decide), at_ 4 (by decide), fun j => h.frozenAt j⟩
theorem own_set {g : Nat} (h : OwnR e 5 encR W B (.slice (some ⟨g, 0, none⟩) n cap) l) {i j : Nat} (hi : i < l.length) (hj : j < 5) (u : Value) (x : Rw) (hx : encR x = (encR (l.getD i r0)).set j u) :
    OwnR e 5 encR (W.setCell ⟨g, i * 5 + j, none⟩ u) B (.slice (some ⟨g, 0, none⟩) n cap) (l.set i x) := by
  have hn : n = l.length := by
    rcases h.2 with ⟨h', _⟩ | ⟨g', cap', cur, h', _⟩
    · simp at h'
    · injection h'
  subst hn
  have := (World.ownsRow.stored h (i * 5 + j) u).1
  unfold OwnR
  rw [← flat_set l i j u x hi hj hx, List.length_set]
  exact this
end
theorem getD_set_ne (l : List Rw) (i j : Nat) (x : Rw) (h : i ≠ j) : (l.set i x).getD j r0 = l.getD j r0 := by
  rw [List.getD_eq_getElem?_getD, List.getElem?_set_ne h, ← List.getD_eq_getElem?_getD]
theorem getD_set_eq (l : List Rw) (i : Nat) (x : Rw) (h : i < l.length) : (l.set i x).getD i r0 = x := by
  rw [List.getD_eq_getElem?_getD, List.getElem?_set_self h]; rfl
theorem set_key {l : List Rw} {i : Nat} {x : Rw} (h1 : x.1 = (l.getD i r0).1) (h2 : x.2.1 = (l.getD i r0).2.1) (j : Nat) : ((l.set i x).getD j r0).1 = (l.getD j r0).1 ∧ ((l.set i x).getD j r0).2.1 = (l.getD j r0).2.1 := by
  by_cases e : i = j
  · subst e
    by_cases hl : i < l.length
    · rw [getD_set_eq l i x hl]; exact ⟨h1, h2⟩
    · rw [List.set_eq_of_length_le (by omega)]; exact ⟨rfl, rfl⟩
  · rw [getD_set_ne l i j x e]; exact ⟨rfl, rfl⟩
theorem set_ord {l : List Rw} {i : Nat} {x : Rw} (ord : OrdR l) (h1 : x.1 = (l.getD i r0).1) (h2 : x.2.1 = (l.getD i r0).2.1) : OrdR (l.set i x) := fun k hk => by
  rw [List.length_set] at hk
  have := ord k hk
  unfold ltR at this ⊢
  rw [(set_key h1 h2 k).1, (set_key h1 h2 k).2, (set_key h1 h2 (k + 1)).1, (set_key h1 h2 (k + 1)).2]
  exact this
theorem ins_set (l : List Rw) (i : Nat) (x y : Rw) (hi : i + 1 ≤ l.length) : (insL l (i + 1) x).set i y = insL (l.set i y) (i + 1) x := by
  unfold insL
  rw [List.set_append_left _ _ (by rw [List.length_take]; omega), List.take_set, List.drop_set_of_lt (by omega)]
theorem ins_at_lt (l : List Rw) (p j : Nat) (x : Rw) (hp : p ≤ l.length) (hj : j < p) : (insL l p x).getD j r0 = l.getD j r0 := by
  unfold insL
  rw [List.getD_eq_getElem?_getD, List.getElem?_append_left (by rw [List.length_take]; omega), List.getElem?_take_of_lt hj, ← List.getD_eq_getElem?_getD]
/-- The place of the last key of a party, or -1. -/
def lastK (l : List Rw) (p : Int) : Nat → Int
  | 0 => -1
  | k + 1 => if (l.getD k r0).1 = p then k else lastK l p k
theorem last_far {l : List Rw} {p : Int} {k : Nat} : ∀ m, k ≤ m → (∀ j, k ≤ j → j < m → (l.getD j r0).1 ≠ p) → lastK l p m = lastK l p k
  | 0, h, _ => by obtain rfl : k = 0 := by omega
                  rfl
  | m + 1, h, hj => by
    rcases Nat.eq_or_lt_of_le h with rfl | h2
    · rfl
    · rw [← last_far (l := l) (p := p) (k := k) m (by omega) (fun j h1 h3 => hj j h1 (by omega))]
      show (if _ then _ else _) = _
      rw [if_neg (hj m (by omega) (by omega))]
def lastL (l : List Rw) (p : Int) : Int := lastK l p l.length
theorem last_none {l : List Rw} {p : Int} {f : Nat} (h : KeysAt l p f f) : lastL l p = -1 := last_far l.length (Nat.zero_le _) (fun j _ hj => h.out j hj (by omega))
theorem last_some {l : List Rw} {p : Int} {f t : Nat} (h : KeysAt l p f t) (hft : f < t) : lastL l p = (t : Int) - 1 := by
  have a : lastK l p (t - 1 + 1) = ((t - 1 : Nat) : Int) := by
    show (if _ then _ else _) = _
    rw [if_pos (h.inn (t - 1) (by omega) (by omega))]
  have c : lastK l p l.length = lastK l p (t - 1 + 1) := last_far l.length (by have := h.len; omega) (fun j h3 h4 => h.out j h4 (Or.inr (by omega)))
  unfold lastL
  rw [c, a]
  omega
def argBad (x : Rw) (at_ ov : Int) : Prop := at_ < 0 ∨ 1099511627776 < at_ ∨ ov < 0 ∨ 1099511627776 < ov ∨ ¬ keyOk x
instance (x : Rw) (a b : Int) : Decidable (argBad x a b) := by unfold argBad; infer_instance
def rotL (l : List Rw) (p : Int) (s : ByteArray) (at_ ov : Int) : List Rw × Int :=
  if lastL l p < 0 then ([], 5)
  else if argBad (p, (l.getD (lastL l p).toNat r0).2.1 + 1, s, at_, 1099511627776) at_ ov then ([], 1)
  else if at_ + ov ≤ (l.getD (lastL l p).toNat r0).2.2.2.1 ∨ (l.getD (lastL l p).toNat r0).2.2.2.2 < at_ then ([], 9)
  else if 1000 ≤ l.length then ([], 2)
  else (insL (l.set (lastL l p).toNat ((l.getD (lastL l p).toNat r0).1, (l.getD (lastL l p).toNat r0).2.1, (l.getD (lastL l p).toNat r0).2.2.1, (l.getD (lastL l p).toNat r0).2.2.2.1, min (l.getD (lastL l p).toNat r0).2.2.2.2 (at_ + ov))) ((lastL l p).toNat + 1) (p, (l.getD (lastL l p).toNat r0).2.1 + 1, s, at_, 1099511627776), 0)
theorem rot_pos {l : List Rw} (ord : OrdR l) {p : Int} {f i : Nat} (h : KeysAt l p f (i + 1)) (hft : f ≤ i) : posC (cR p ((l.getD i r0).2.1 + 1)) l = i + 1 ∧ ¬ hasC (cR p ((l.getD i r0).2.1 + 1)) l = true := by
  have hp := h.inn i hft (by omega)
  have e : posC (cR p ((l.getD i r0).2.1 + 1)) l = i + 1 := posC_is _ _ _ h.len (fun j hj => by
    rw [cR_neg]
    rcases Nat.eq_or_lt_of_le (Nat.le_of_lt_succ hj) with e | e
    · subst e; right; exact ⟨hp, by omega⟩
    · have := ord.lt e (by have := h.len; omega)
      unfold ltR at this
      rw [hp] at this
      omega) (fun hl => by
    have h1 := h.out (i + 1) hl (Or.inr (Nat.le_refl _))
    have h2 := ord.lt (show i < i + 1 by omega) hl
    unfold ltR at h2
    rw [cR_neg]
    omega)
  refine ⟨e, fun q => ?_⟩
  obtain ⟨a, b⟩ := (hasC_iff _ _).1 q
  rw [e] at a b
  exact h.out (i + 1) a (Or.inr (Nat.le_refl _)) (cR_zero.1 b).1
theorem keys_set {l : List Rw} {p : Int} {f t i : Nat} {x : Rw} (h : KeysAt l p f t) (h1 : x.1 = (l.getD i r0).1) (h2 : x.2.1 = (l.getD i r0).2.1) : KeysAt (l.set i x) p f t :=
  ⟨h.le, by rw [List.length_set]; exact h.len, fun j a b => by rw [(set_key h1 h2 j).1]; exact h.inn j a b, fun j a b => by rw [List.length_set] at a; rw [(set_key h1 h2 j).1]; exact h.out j a b⟩
theorem run_to (l : List Rw) (p : Int) : ∀ n F, F + n = l.length → ∃ t, F ≤ t ∧ t ≤ l.length ∧ (∀ j, F ≤ j → j < t → (l.getD j r0).1 = p) ∧ (t < l.length → (l.getD t r0).1 ≠ p)
  | 0, F, h => ⟨F, Nat.le_refl _, by omega, fun j h1 h2 => absurd h1 (by omega), fun h2 => absurd h2 (by omega)⟩
  | n + 1, F, h => by
    by_cases e : (l.getD F r0).1 = p
    · obtain ⟨t, h1, h2, h3, h4⟩ := run_to l p n (F + 1) (by omega)
      exact ⟨t, by omega, h2, fun j a b => by
        rcases Nat.eq_or_lt_of_le a with q | q
        · subst q; exact e
        · exact h3 j q b, h4⟩
    · exact ⟨F, Nat.le_refl _, by omega, fun j h1 h2 => absurd h1 (by omega), fun _ => e⟩
theorem keys_ex {l : List Rw} (ok : RingOk l) (p : Int) : ∃ T, KeysAt l p (posC (cR p 1) l) T := by
  have hle := posC_le (cR p 1) l
  obtain ⟨t, h1, h2, h3, h4⟩ := run_to l p (l.length - posC (cR p 1) l) (posC (cR p 1) l) (by omega)
  refine ⟨t, keys_at ok.ord hle (fun j hj => ?_) h1 h2 h3 h4 (fun h => ?_)⟩
  · have h5 := posC_below (cR p 1) l j hj
    rw [cR_neg] at h5
    have h6 := (ok.keys j (by omega)).2.1.1
    omega
  · have h5 := posC_at (cR p 1) l h
    rw [cR_neg] at h5
    omega
theorem keys_uni {l : List Rw} {p : Int} {f t t' : Nat} (h : KeysAt l p f t) (h' : KeysAt l p f t') : t = t' := by
  rcases Nat.eq_or_lt_of_le h.le with e | e
  · subst e
    rcases Nat.eq_or_lt_of_le h'.le with e' | e'
    · exact e'
    · exact absurd (h'.inn f (Nat.le_refl _) e') (h.out f (by have := h'.len; omega) (Or.inr (Nat.le_refl _)))
  · rcases Nat.eq_or_lt_of_le h'.le with e' | e'
    · subst e'
      exact absurd (h.inn f (Nat.le_refl _) e) (h'.out f (by have := h.len; omega) (Or.inr (Nat.le_refl _)))
    · have a := last_some h e
      have b := last_some h' e'
      omega
theorem keys_fix (a : Option Addr) (c : Nat) (l : List Rw) (p : Int) (ok : RingOk l) : ∃ F T : Nat, (∀ X : World, RwA X a l → Calls Tryd.prog 61 #[.slice a l.length c, .int .i64 p] X fun e w' => e = .returned (.tuple #[.int .i64 F, .int .i64 T]) ∧ Below X.heap.size X w') ∧ KeysAt l p F T := by
  obtain ⟨T, hT⟩ := keys_ex ok p
  refine ⟨_, T, fun X hX => (keysOf_any a c l p X hX ok).mono fun e w' ⟨⟨f, t, he, hf, hk⟩, hb⟩ => ⟨?_, hb⟩, hT⟩
  subst hf
  rw [he, keys_uni hk hT]
end
section
open Go.RowKit Go.Sort
set_option maxRecDepth 100000 in
set_option maxHeartbeats 2000000 in
theorem rot_name (a : Option Addr) (c : Nat) (l : List Rw) (p : Int) (s : ByteArray) (at_ ov : Int) (w : World) (hp : RwA w a l) (F T : Nat) (KO : Hid (∀ X : World, RwA X a l → Calls Tryd.prog 61 #[.slice a l.length c, .int .i64 p] X fun e w' => e = .returned (.tuple #[.int .i64 F, .int .i64 T]) ∧ Below X.heap.size X w')) (ok : RingOk l) (ka : KeysAt l p F T) (h : F = T) :
    Calls Tryd.prog 20 #[.slice a l.length c, .int .i64 p, .string s, .int .i64 at_, .int .i64 ov] w fun e w' => Rows (rotL l p s at_ ov) w' e ∧ Below w.heap.size w w' := by
  have HP := Lib.hid hp
  have hm := ok.few
  have hlen := ka.len
  have hle := ka.le
  obtain ⟨N, hN⟩ : ∃ N, l.length = N := ⟨_, rfl⟩
  have HE := Lib.hid hN
  subst h
  unfold rotL
  rw [if_pos (by rw [last_none ka]; decide)]
  simp only [hN] at KO
  rw [hN]
  have t0 : ((F : Int) == (F : Int)) = true := by simp
  clear hp hN ok ka hm hlen hle
  go_enter Tryd.func20, Tryd.ntmps20
  have B := Lib.hid (Below.refl w.heap.size w)
  have HG := Lib.hid (rfl : w.heap.size = w.heap.size)
  go_wp2_with fail
  refine (KO.out _ HP.out).mono ?_
  rintro e w1 ⟨rfl, hb⟩
  replace B := Lib.hid hb
  clear hb KO
  go_wp2
  go_ret2
  exact ⟨Rows.nil 5 _, B.out⟩
set_option maxRecDepth 100000 in
set_option maxHeartbeats 2000000 in
theorem rot_arg (a : Option Addr) (c : Nat) (l : List Rw) (p : Int) (s : ByteArray) (at_ ov : Int) (w : World) (hp : RwA w a l) (F T : Nat) (KO : Hid (∀ X : World, RwA X a l → Calls Tryd.prog 61 #[.slice a l.length c, .int .i64 p] X fun e w' => e = .returned (.tuple #[.int .i64 F, .int .i64 T]) ∧ Below X.heap.size X w')) (ok : RingOk l) (ka : KeysAt l p F T) (h : F < T) (hb : argBad (p, (l.getD (lastL l p).toNat r0).2.1 + 1, s, at_, 1099511627776) at_ ov) :
    Calls Tryd.prog 20 #[.slice a l.length c, .int .i64 p, .string s, .int .i64 at_, .int .i64 ov] w fun e w' => Rows (rotL l p s at_ ov) w' e ∧ Below w.heap.size w w' := by
  have HP := Lib.hid hp
  have hm := ok.few
  have hlen := ka.len
  have hle := ka.le
  obtain ⟨N, hN⟩ : ∃ N, l.length = N := ⟨_, rfl⟩
  have HE := Lib.hid hN
  obtain ⟨i, rfl⟩ : ∃ i, T = i + 1 := ⟨T - 1, by omega⟩
  have hl : lastL l p = (i : Int) := by rw [last_some ka h]; omega
  have hn : ¬ lastL l p < 0 := by rw [hl]; omega
  have ht : (lastL l p).toNat = i := by rw [hl]; rfl
  unfold rotL
  rw [if_neg hn, ht]
  rw [ht] at hb
  clear hn ht
  have hin : (l.getD i r0).1 = p := ka.inn i (by omega) (by omega)
  have hlt : i < l.length := by omega
  have ko := ok.keys i hlt
  have RP := Lib.hid (rot_pos ok.ord ka (by omega))
  obtain ⟨x, hx⟩ : ∃ y, l.getD i r0 = y := ⟨_, rfl⟩
  have HX := Lib.hid hx
  rw [hx] at hin ko RP hb ⊢
  obtain ⟨o1, o2, o3, o4, o5⟩ := x
  unfold keyOk at ko
  simp only at hin ko RP hb ⊢
  obtain ⟨⟨k1, k2⟩, ⟨k3, k4⟩, k5, k6, k7, k8⟩ := ko
  have wS : IntKind.i64.wrap (o2 + 1) = o2 + 1 := by rw [IntKind.wrap_i64]; omega
  obtain ⟨S, hS⟩ : ∃ z, o2 + 1 = z := ⟨_, rfl⟩
  rw [hS] at wS RP hb ⊢
  have wS2 : IntKind.i64.wrap S = S := wS
  have VA := Lib.hid (fun W : World => valid_any (p, S, s, at_, 1099511627776) W)
  simp only [encR] at VA
  rw [hN] at hlen hlt hm
  have t0 : ((F : Int) == ((i + 1 : Nat) : Int)) = false := by simp; omega
  have wi1 : IntKind.i64.wrap (((i + 1 : Nat) : Int) - 1) = (i : Int) := by rw [IntKind.wrap_i64]; omega
  have wi2 : ((i + 1 : Nat) : Int) - 1 = (i : Int) := by omega
  have wi3 : IntKind.i64.wrap (i : Int) = (i : Int) := by rw [IntKind.wrap_i64]; omega
  have i0 : (0 : Int) ≤ (i : Int) := by omega
  have iN : (i : Int) < (N : Int) := by omega
  simp only [hN] at KO
  rw [if_pos hb]
  unfold argBad at hb
  rw [hN]
  by_cases a1 : at_ < 0
  · have ta1 : decide (at_ < 0) = true := decide_eq_true (by omega)
    clear hb a1
    clear hp hN ok ka hlen hle hin hl hx k1 k2 k3 k4 k5 k6 k7 k8
    go_enter Tryd.func20, Tryd.ntmps20
    have B := Lib.hid (Below.refl w.heap.size w)
    have HG := Lib.hid (rfl : w.heap.size = w.heap.size)
    go_wp2_with fail
    refine (KO.out _ HP.out).mono ?_
    rintro e w1 ⟨rfl, hb⟩
    replace B := Lib.hid hb
    clear hb KO
    obtain ⟨b, off, rfl, q0, q1, q2, q3, q4⟩ := RwA.at_ (HP.out.mono B.out) (k := i) (by rw [HE.out]; exact hlt)
    rw [HX.out] at q0 q1 q2 q3 q4
    simp only at q0 q1 q2 q3 q4
    obtain ⟨go, hgo⟩ : ∃ G, w1.heap.size = G := ⟨_, rfl⟩
    have Ko := Lib.hid (show Blk (w1.alloc (.cells #[.int .i64 o1, .int .i64 o2, .string o3, .int .i64 o4, .int .i64 o5] 24)) go 24 #[.int .i64 o1, .int .i64 o2, .string o3, .int .i64 o4, .int .i64 o5] from Blk.new' w1 _ _ _ hgo rfl)
    have Lo := Lib.hid (show w.heap.size ≤ go from by rw [← hgo]; exact B.out.size)
    replace B := Lib.hid (B.out.alloc B.out.size (.cells #[.int .i64 o1, .int .i64 o2, .string o3, .int .i64 o4, .int .i64 o5] 24))
    go_upto_region 5 with (fail)
    try rw [hgo]
    generalize hw : w1.alloc (.cells #[.int .i64 o1, .int .i64 o2, .string o3, .int .i64 o4, .int .i64 o5] 24) = w1 at Ko  B ⊢
    clear hw hgo
    clear q0 q1 q2 q3 q4
    obtain ⟨boc0, boc1, boc2, boc3, boc4⟩ := five Ko.out
    obtain ⟨gk, hgk⟩ : ∃ G, w1.heap.size = G := ⟨_, rfl⟩
    have Kk := Lib.hid (show Blk (w1.alloc (.cells #[.int .i64 p, .int .i64 S, .string s, .int .i64 at_, .int .i64 1099511627776] 24)) gk 24 #[.int .i64 p, .int .i64 S, .string s, .int .i64 at_, .int .i64 1099511627776] from Blk.new' w1 _ _ _ hgk rfl)
    have Nok := Lib.hid (show go < gk from by rw [← hgk]; exact Ko.out.lt)
    replace Ko := Lib.hid (Ko.out.alloc (.cells #[.int .i64 p, .int .i64 S, .string s, .int .i64 at_, .int .i64 1099511627776] 24))
    have Lk := Lib.hid (show w.heap.size ≤ gk from by rw [← hgk]; exact B.out.size)
    replace B := Lib.hid (B.out.alloc B.out.size (.cells #[.int .i64 p, .int .i64 S, .string s, .int .i64 at_, .int .i64 1099511627776] 24))
    go_upto_region 6 with (fail)
    try rw [hgk]
    generalize hw : w1.alloc (.cells #[.int .i64 p, .int .i64 S, .string s, .int .i64 at_, .int .i64 1099511627776] 24) = w2 at Ko Kk  B ⊢
    clear boc0 boc1 boc2 boc3 boc4
    clear hw hgk
    obtain ⟨boc0, boc1, boc2, boc3, boc4⟩ := five Ko.out
    obtain ⟨bkc0, bkc1, bkc2, bkc3, bkc4⟩ := five Kk.out
    go_wp2
    go_ret2
    exact ⟨Rows.nil 1 _, B.out⟩
  · have ta1 : decide (at_ < 0) = false := decide_eq_false (by omega)
    by_cases a2 : 1099511627776 < at_
    · have ta2 : decide (1099511627776 < at_) = true := decide_eq_true (by omega)
      clear hb a1 a2
      clear hp hN ok ka hlen hle hin hl hx k1 k2 k3 k4 k5 k6 k7 k8
      go_enter Tryd.func20, Tryd.ntmps20
      have B := Lib.hid (Below.refl w.heap.size w)
      have HG := Lib.hid (rfl : w.heap.size = w.heap.size)
      go_wp2_with fail
      refine (KO.out _ HP.out).mono ?_
      rintro e w1 ⟨rfl, hb⟩
      replace B := Lib.hid hb
      clear hb KO
      obtain ⟨b, off, rfl, q0, q1, q2, q3, q4⟩ := RwA.at_ (HP.out.mono B.out) (k := i) (by rw [HE.out]; exact hlt)
      rw [HX.out] at q0 q1 q2 q3 q4
      simp only at q0 q1 q2 q3 q4
      obtain ⟨go, hgo⟩ : ∃ G, w1.heap.size = G := ⟨_, rfl⟩
      have Ko := Lib.hid (show Blk (w1.alloc (.cells #[.int .i64 o1, .int .i64 o2, .string o3, .int .i64 o4, .int .i64 o5] 24)) go 24 #[.int .i64 o1, .int .i64 o2, .string o3, .int .i64 o4, .int .i64 o5] from Blk.new' w1 _ _ _ hgo rfl)
      have Lo := Lib.hid (show w.heap.size ≤ go from by rw [← hgo]; exact B.out.size)
      replace B := Lib.hid (B.out.alloc B.out.size (.cells #[.int .i64 o1, .int .i64 o2, .string o3, .int .i64 o4, .int .i64 o5] 24))
      go_upto_region 5 with (fail)
      try rw [hgo]
      generalize hw : w1.alloc (.cells #[.int .i64 o1, .int .i64 o2, .string o3, .int .i64 o4, .int .i64 o5] 24) = w1 at Ko  B ⊢
      clear hw hgo
      clear q0 q1 q2 q3 q4
      obtain ⟨boc0, boc1, boc2, boc3, boc4⟩ := five Ko.out
      obtain ⟨gk, hgk⟩ : ∃ G, w1.heap.size = G := ⟨_, rfl⟩
      have Kk := Lib.hid (show Blk (w1.alloc (.cells #[.int .i64 p, .int .i64 S, .string s, .int .i64 at_, .int .i64 1099511627776] 24)) gk 24 #[.int .i64 p, .int .i64 S, .string s, .int .i64 at_, .int .i64 1099511627776] from Blk.new' w1 _ _ _ hgk rfl)
      have Nok := Lib.hid (show go < gk from by rw [← hgk]; exact Ko.out.lt)
      replace Ko := Lib.hid (Ko.out.alloc (.cells #[.int .i64 p, .int .i64 S, .string s, .int .i64 at_, .int .i64 1099511627776] 24))
      have Lk := Lib.hid (show w.heap.size ≤ gk from by rw [← hgk]; exact B.out.size)
      replace B := Lib.hid (B.out.alloc B.out.size (.cells #[.int .i64 p, .int .i64 S, .string s, .int .i64 at_, .int .i64 1099511627776] 24))
      go_upto_region 6 with (fail)
      try rw [hgk]
      generalize hw : w1.alloc (.cells #[.int .i64 p, .int .i64 S, .string s, .int .i64 at_, .int .i64 1099511627776] 24) = w2 at Ko Kk  B ⊢
      clear boc0 boc1 boc2 boc3 boc4
      clear hw hgk
      obtain ⟨boc0, boc1, boc2, boc3, boc4⟩ := five Ko.out
      obtain ⟨bkc0, bkc1, bkc2, bkc3, bkc4⟩ := five Kk.out
      go_wp2
      go_ret2
      exact ⟨Rows.nil 1 _, B.out⟩
    · have ta2 : decide (1099511627776 < at_) = false := decide_eq_false (by omega)
      by_cases a3 : ov < 0
      · have ta3 : decide (ov < 0) = true := decide_eq_true (by omega)
        clear hb a1 a2 a3
        clear hp hN ok ka hlen hle hin hl hx k1 k2 k3 k4 k5 k6 k7 k8
        go_enter Tryd.func20, Tryd.ntmps20
        have B := Lib.hid (Below.refl w.heap.size w)
        have HG := Lib.hid (rfl : w.heap.size = w.heap.size)
        go_wp2_with fail
        refine (KO.out _ HP.out).mono ?_
        rintro e w1 ⟨rfl, hb⟩
        replace B := Lib.hid hb
        clear hb KO
        obtain ⟨b, off, rfl, q0, q1, q2, q3, q4⟩ := RwA.at_ (HP.out.mono B.out) (k := i) (by rw [HE.out]; exact hlt)
        rw [HX.out] at q0 q1 q2 q3 q4
        simp only at q0 q1 q2 q3 q4
        obtain ⟨go, hgo⟩ : ∃ G, w1.heap.size = G := ⟨_, rfl⟩
        have Ko := Lib.hid (show Blk (w1.alloc (.cells #[.int .i64 o1, .int .i64 o2, .string o3, .int .i64 o4, .int .i64 o5] 24)) go 24 #[.int .i64 o1, .int .i64 o2, .string o3, .int .i64 o4, .int .i64 o5] from Blk.new' w1 _ _ _ hgo rfl)
        have Lo := Lib.hid (show w.heap.size ≤ go from by rw [← hgo]; exact B.out.size)
        replace B := Lib.hid (B.out.alloc B.out.size (.cells #[.int .i64 o1, .int .i64 o2, .string o3, .int .i64 o4, .int .i64 o5] 24))
        go_upto_region 5 with (fail)
        try rw [hgo]
        generalize hw : w1.alloc (.cells #[.int .i64 o1, .int .i64 o2, .string o3, .int .i64 o4, .int .i64 o5] 24) = w1 at Ko  B ⊢
        clear hw hgo
        clear q0 q1 q2 q3 q4
        obtain ⟨boc0, boc1, boc2, boc3, boc4⟩ := five Ko.out
        obtain ⟨gk, hgk⟩ : ∃ G, w1.heap.size = G := ⟨_, rfl⟩
        have Kk := Lib.hid (show Blk (w1.alloc (.cells #[.int .i64 p, .int .i64 S, .string s, .int .i64 at_, .int .i64 1099511627776] 24)) gk 24 #[.int .i64 p, .int .i64 S, .string s, .int .i64 at_, .int .i64 1099511627776] from Blk.new' w1 _ _ _ hgk rfl)
        have Nok := Lib.hid (show go < gk from by rw [← hgk]; exact Ko.out.lt)
        replace Ko := Lib.hid (Ko.out.alloc (.cells #[.int .i64 p, .int .i64 S, .string s, .int .i64 at_, .int .i64 1099511627776] 24))
        have Lk := Lib.hid (show w.heap.size ≤ gk from by rw [← hgk]; exact B.out.size)
        replace B := Lib.hid (B.out.alloc B.out.size (.cells #[.int .i64 p, .int .i64 S, .string s, .int .i64 at_, .int .i64 1099511627776] 24))
        go_upto_region 6 with (fail)
        try rw [hgk]
        generalize hw : w1.alloc (.cells #[.int .i64 p, .int .i64 S, .string s, .int .i64 at_, .int .i64 1099511627776] 24) = w2 at Ko Kk  B ⊢
        clear boc0 boc1 boc2 boc3 boc4
        clear hw hgk
        obtain ⟨boc0, boc1, boc2, boc3, boc4⟩ := five Ko.out
        obtain ⟨bkc0, bkc1, bkc2, bkc3, bkc4⟩ := five Kk.out
        go_wp2
        go_ret2
        exact ⟨Rows.nil 1 _, B.out⟩
      · have ta3 : decide (ov < 0) = false := decide_eq_false (by omega)
        by_cases a4 : 1099511627776 < ov
        · have ta4 : decide (1099511627776 < ov) = true := decide_eq_true (by omega)
          clear hb a1 a2 a3 a4
          clear hp hN ok ka hlen hle hin hl hx k1 k2 k3 k4 k5 k6 k7 k8
          go_enter Tryd.func20, Tryd.ntmps20
          have B := Lib.hid (Below.refl w.heap.size w)
          have HG := Lib.hid (rfl : w.heap.size = w.heap.size)
          go_wp2_with fail
          refine (KO.out _ HP.out).mono ?_
          rintro e w1 ⟨rfl, hb⟩
          replace B := Lib.hid hb
          clear hb KO
          obtain ⟨b, off, rfl, q0, q1, q2, q3, q4⟩ := RwA.at_ (HP.out.mono B.out) (k := i) (by rw [HE.out]; exact hlt)
          rw [HX.out] at q0 q1 q2 q3 q4
          simp only at q0 q1 q2 q3 q4
          obtain ⟨go, hgo⟩ : ∃ G, w1.heap.size = G := ⟨_, rfl⟩
          have Ko := Lib.hid (show Blk (w1.alloc (.cells #[.int .i64 o1, .int .i64 o2, .string o3, .int .i64 o4, .int .i64 o5] 24)) go 24 #[.int .i64 o1, .int .i64 o2, .string o3, .int .i64 o4, .int .i64 o5] from Blk.new' w1 _ _ _ hgo rfl)
          have Lo := Lib.hid (show w.heap.size ≤ go from by rw [← hgo]; exact B.out.size)
          replace B := Lib.hid (B.out.alloc B.out.size (.cells #[.int .i64 o1, .int .i64 o2, .string o3, .int .i64 o4, .int .i64 o5] 24))
          go_upto_region 5 with (fail)
          try rw [hgo]
          generalize hw : w1.alloc (.cells #[.int .i64 o1, .int .i64 o2, .string o3, .int .i64 o4, .int .i64 o5] 24) = w1 at Ko  B ⊢
          clear hw hgo
          clear q0 q1 q2 q3 q4
          obtain ⟨boc0, boc1, boc2, boc3, boc4⟩ := five Ko.out
          obtain ⟨gk, hgk⟩ : ∃ G, w1.heap.size = G := ⟨_, rfl⟩
          have Kk := Lib.hid (show Blk (w1.alloc (.cells #[.int .i64 p, .int .i64 S, .string s, .int .i64 at_, .int .i64 1099511627776] 24)) gk 24 #[.int .i64 p, .int .i64 S, .string s, .int .i64 at_, .int .i64 1099511627776] from Blk.new' w1 _ _ _ hgk rfl)
          have Nok := Lib.hid (show go < gk from by rw [← hgk]; exact Ko.out.lt)
          replace Ko := Lib.hid (Ko.out.alloc (.cells #[.int .i64 p, .int .i64 S, .string s, .int .i64 at_, .int .i64 1099511627776] 24))
          have Lk := Lib.hid (show w.heap.size ≤ gk from by rw [← hgk]; exact B.out.size)
          replace B := Lib.hid (B.out.alloc B.out.size (.cells #[.int .i64 p, .int .i64 S, .string s, .int .i64 at_, .int .i64 1099511627776] 24))
          go_upto_region 6 with (fail)
          try rw [hgk]
          generalize hw : w1.alloc (.cells #[.int .i64 p, .int .i64 S, .string s, .int .i64 at_, .int .i64 1099511627776] 24) = w2 at Ko Kk  B ⊢
          clear boc0 boc1 boc2 boc3 boc4
          clear hw hgk
          obtain ⟨boc0, boc1, boc2, boc3, boc4⟩ := five Ko.out
          obtain ⟨bkc0, bkc1, bkc2, bkc3, bkc4⟩ := five Kk.out
          go_wp2
          go_ret2
          exact ⟨Rows.nil 1 _, B.out⟩
        · have ta4 : decide (1099511627776 < ov) = false := decide_eq_false (by omega)
          have v1 : keyB (p, S, s, at_, 1099511627776) = false := decide_eq_false (by
            rcases hb with h | h | h | h | h
            · exact absurd h a1
            · exact absurd h a2
            · exact absurd h a3
            · exact absurd h a4
            · exact h)
          rw [v1] at VA
          clear hb a1 a2 a3 a4 v1
          clear hp hN ok ka hlen hle hin hl hx k1 k2 k3 k4 k5 k6 k7 k8
          go_enter Tryd.func20, Tryd.ntmps20
          have B := Lib.hid (Below.refl w.heap.size w)
          have HG := Lib.hid (rfl : w.heap.size = w.heap.size)
          go_wp2_with fail
          refine (KO.out _ HP.out).mono ?_
          rintro e w1 ⟨rfl, hb⟩
          replace B := Lib.hid hb
          clear hb KO
          obtain ⟨b, off, rfl, q0, q1, q2, q3, q4⟩ := RwA.at_ (HP.out.mono B.out) (k := i) (by rw [HE.out]; exact hlt)
          rw [HX.out] at q0 q1 q2 q3 q4
          simp only at q0 q1 q2 q3 q4
          obtain ⟨go, hgo⟩ : ∃ G, w1.heap.size = G := ⟨_, rfl⟩
          have Ko := Lib.hid (show Blk (w1.alloc (.cells #[.int .i64 o1, .int .i64 o2, .string o3, .int .i64 o4, .int .i64 o5] 24)) go 24 #[.int .i64 o1, .int .i64 o2, .string o3, .int .i64 o4, .int .i64 o5] from Blk.new' w1 _ _ _ hgo rfl)
          have Lo := Lib.hid (show w.heap.size ≤ go from by rw [← hgo]; exact B.out.size)
          replace B := Lib.hid (B.out.alloc B.out.size (.cells #[.int .i64 o1, .int .i64 o2, .string o3, .int .i64 o4, .int .i64 o5] 24))
          go_upto_region 5 with (fail)
          try rw [hgo]
          generalize hw : w1.alloc (.cells #[.int .i64 o1, .int .i64 o2, .string o3, .int .i64 o4, .int .i64 o5] 24) = w1 at Ko  B ⊢
          clear hw hgo
          clear q0 q1 q2 q3 q4
          obtain ⟨boc0, boc1, boc2, boc3, boc4⟩ := five Ko.out
          obtain ⟨gk, hgk⟩ : ∃ G, w1.heap.size = G := ⟨_, rfl⟩
          have Kk := Lib.hid (show Blk (w1.alloc (.cells #[.int .i64 p, .int .i64 S, .string s, .int .i64 at_, .int .i64 1099511627776] 24)) gk 24 #[.int .i64 p, .int .i64 S, .string s, .int .i64 at_, .int .i64 1099511627776] from Blk.new' w1 _ _ _ hgk rfl)
          have Nok := Lib.hid (show go < gk from by rw [← hgk]; exact Ko.out.lt)
          replace Ko := Lib.hid (Ko.out.alloc (.cells #[.int .i64 p, .int .i64 S, .string s, .int .i64 at_, .int .i64 1099511627776] 24))
          have Lk := Lib.hid (show w.heap.size ≤ gk from by rw [← hgk]; exact B.out.size)
          replace B := Lib.hid (B.out.alloc B.out.size (.cells #[.int .i64 p, .int .i64 S, .string s, .int .i64 at_, .int .i64 1099511627776] 24))
          go_upto_region 6 with (fail)
          try rw [hgk]
          generalize hw : w1.alloc (.cells #[.int .i64 p, .int .i64 S, .string s, .int .i64 at_, .int .i64 1099511627776] 24) = w2 at Ko Kk  B ⊢
          clear boc0 boc1 boc2 boc3 boc4
          clear hw hgk
          obtain ⟨boc0, boc1, boc2, boc3, boc4⟩ := five Ko.out
          obtain ⟨bkc0, bkc1, bkc2, bkc3, bkc4⟩ := five Kk.out
          go_wp2_with fail
          refine (VA.out _).mono ?_
          rintro e w3 ⟨rfl, hb⟩
          replace Ko := Lib.hid (Ko.out.below hb Ko.out.lt)
          replace Kk := Lib.hid (Kk.out.below hb Kk.out.lt)
          replace B := Lib.hid (B.out.trans (hb.mono B.out.size))
          clear boc0 boc1 boc2 boc3 boc4 bkc0 bkc1 bkc2 bkc3 bkc4
          clear hb
          obtain ⟨boc0, boc1, boc2, boc3, boc4⟩ := five Ko.out
          obtain ⟨bkc0, bkc1, bkc2, bkc3, bkc4⟩ := five Kk.out
          go_wp2
          go_ret2
          exact ⟨Rows.nil 1 _, B.out⟩
set_option maxRecDepth 100000 in
set_option maxHeartbeats 2000000 in
theorem rot_time (a : Option Addr) (c : Nat) (l : List Rw) (p : Int) (s : ByteArray) (at_ ov : Int) (w : World) (hp : RwA w a l) (F T : Nat) (KO : Hid (∀ X : World, RwA X a l → Calls Tryd.prog 61 #[.slice a l.length c, .int .i64 p] X fun e w' => e = .returned (.tuple #[.int .i64 F, .int .i64 T]) ∧ Below X.heap.size X w')) (ok : RingOk l) (ka : KeysAt l p F T) (h : F < T) (hb : ¬ argBad (p, (l.getD (lastL l p).toNat r0).2.1 + 1, s, at_, 1099511627776) at_ ov) (HT : at_ + ov ≤ (l.getD (lastL l p).toNat r0).2.2.2.1 ∨ (l.getD (lastL l p).toNat r0).2.2.2.2 < at_) :
    Calls Tryd.prog 20 #[.slice a l.length c, .int .i64 p, .string s, .int .i64 at_, .int .i64 ov] w fun e w' => Rows (rotL l p s at_ ov) w' e ∧ Below w.heap.size w w' := by
  have HP := Lib.hid hp
  have hm := ok.few
  have hlen := ka.len
  have hle := ka.le
  obtain ⟨N, hN⟩ : ∃ N, l.length = N := ⟨_, rfl⟩
  have HE := Lib.hid hN
  obtain ⟨i, rfl⟩ : ∃ i, T = i + 1 := ⟨T - 1, by omega⟩
  have hl : lastL l p = (i : Int) := by rw [last_some ka h]; omega
  have hn : ¬ lastL l p < 0 := by rw [hl]; omega
  have ht : (lastL l p).toNat = i := by rw [hl]; rfl
  unfold rotL
  rw [if_neg hn, ht]
  rw [ht] at hb HT
  clear hn ht
  have hin : (l.getD i r0).1 = p := ka.inn i (by omega) (by omega)
  have hlt : i < l.length := by omega
  have ko := ok.keys i hlt
  have RP := Lib.hid (rot_pos ok.ord ka (by omega))
  obtain ⟨x, hx⟩ : ∃ y, l.getD i r0 = y := ⟨_, rfl⟩
  have HX := Lib.hid hx
  rw [hx] at hin ko RP hb HT ⊢
  obtain ⟨o1, o2, o3, o4, o5⟩ := x
  unfold keyOk at ko
  simp only at hin ko RP hb HT ⊢
  obtain ⟨⟨k1, k2⟩, ⟨k3, k4⟩, k5, k6, k7, k8⟩ := ko
  have wS : IntKind.i64.wrap (o2 + 1) = o2 + 1 := by rw [IntKind.wrap_i64]; omega
  obtain ⟨S, hS⟩ : ∃ z, o2 + 1 = z := ⟨_, rfl⟩
  rw [hS] at wS RP hb ⊢
  have wS2 : IntKind.i64.wrap S = S := wS
  have VA := Lib.hid (fun W : World => valid_any (p, S, s, at_, 1099511627776) W)
  simp only [encR] at VA
  rw [hN] at hlen hlt hm
  have t0 : ((F : Int) == ((i + 1 : Nat) : Int)) = false := by simp; omega
  have wi1 : IntKind.i64.wrap (((i + 1 : Nat) : Int) - 1) = (i : Int) := by rw [IntKind.wrap_i64]; omega
  have wi2 : ((i + 1 : Nat) : Int) - 1 = (i : Int) := by omega
  have wi3 : IntKind.i64.wrap (i : Int) = (i : Int) := by rw [IntKind.wrap_i64]; omega
  have i0 : (0 : Int) ≤ (i : Int) := by omega
  have iN : (i : Int) < (N : Int) := by omega
  simp only [hN] at KO
  rw [if_neg hb]
  unfold argBad at hb
  rw [hN]
  have a1 : ¬ at_ < 0 := fun q => hb (Or.inl q)
  have a2 : ¬ 1099511627776 < at_ := fun q => hb (Or.inr (Or.inl q))
  have a3 : ¬ ov < 0 := fun q => hb (Or.inr (Or.inr (Or.inl q)))
  have a4 : ¬ 1099511627776 < ov := fun q => hb (Or.inr (Or.inr (Or.inr (Or.inl q))))
  have v1 : keyB (p, S, s, at_, 1099511627776) = true := decide_eq_true (Decidable.of_not_not fun q => hb (Or.inr (Or.inr (Or.inr (Or.inr q)))))
  rw [v1] at VA
  have ta1 : decide (at_ < 0) = false := decide_eq_false (by omega)
  have ta2 : decide (1099511627776 < at_) = false := decide_eq_false (by omega)
  have ta3 : decide (ov < 0) = false := decide_eq_false (by omega)
  have ta4 : decide (1099511627776 < ov) = false := decide_eq_false (by omega)
  have wE : IntKind.i64.wrap (at_ + ov) = at_ + ov := by rw [IntKind.wrap_i64]; omega
  obtain ⟨E, hE⟩ : ∃ z, at_ + ov = z := ⟨_, rfl⟩
  rw [hE] at wE HT ⊢
  have wE2 : IntKind.i64.wrap E = E := wE
  rw [if_pos HT]
  by_cases e1 : E ≤ o4
  · have te1 : decide (E ≤ o4) = true := decide_eq_true (by omega)
    clear hb HT a1 a2 a3 a4 v1 e1
    clear hp hN ok ka hlen hle hin hl hx k1 k2 k3 k4 k5 k6 k7 k8
    go_enter Tryd.func20, Tryd.ntmps20
    have B := Lib.hid (Below.refl w.heap.size w)
    have HG := Lib.hid (rfl : w.heap.size = w.heap.size)
    go_wp2_with fail
    refine (KO.out _ HP.out).mono ?_
    rintro e w1 ⟨rfl, hb⟩
    replace B := Lib.hid hb
    clear hb KO
    obtain ⟨b, off, rfl, q0, q1, q2, q3, q4⟩ := RwA.at_ (HP.out.mono B.out) (k := i) (by rw [HE.out]; exact hlt)
    rw [HX.out] at q0 q1 q2 q3 q4
    simp only at q0 q1 q2 q3 q4
    obtain ⟨go, hgo⟩ : ∃ G, w1.heap.size = G := ⟨_, rfl⟩
    have Ko := Lib.hid (show Blk (w1.alloc (.cells #[.int .i64 o1, .int .i64 o2, .string o3, .int .i64 o4, .int .i64 o5] 24)) go 24 #[.int .i64 o1, .int .i64 o2, .string o3, .int .i64 o4, .int .i64 o5] from Blk.new' w1 _ _ _ hgo rfl)
    have Lo := Lib.hid (show w.heap.size ≤ go from by rw [← hgo]; exact B.out.size)
    replace B := Lib.hid (B.out.alloc B.out.size (.cells #[.int .i64 o1, .int .i64 o2, .string o3, .int .i64 o4, .int .i64 o5] 24))
    go_upto_region 5 with (fail)
    try rw [hgo]
    generalize hw : w1.alloc (.cells #[.int .i64 o1, .int .i64 o2, .string o3, .int .i64 o4, .int .i64 o5] 24) = w1 at Ko  B ⊢
    clear hw hgo
    clear q0 q1 q2 q3 q4
    obtain ⟨boc0, boc1, boc2, boc3, boc4⟩ := five Ko.out
    obtain ⟨gk, hgk⟩ : ∃ G, w1.heap.size = G := ⟨_, rfl⟩
    have Kk := Lib.hid (show Blk (w1.alloc (.cells #[.int .i64 p, .int .i64 S, .string s, .int .i64 at_, .int .i64 1099511627776] 24)) gk 24 #[.int .i64 p, .int .i64 S, .string s, .int .i64 at_, .int .i64 1099511627776] from Blk.new' w1 _ _ _ hgk rfl)
    have Nok := Lib.hid (show go < gk from by rw [← hgk]; exact Ko.out.lt)
    replace Ko := Lib.hid (Ko.out.alloc (.cells #[.int .i64 p, .int .i64 S, .string s, .int .i64 at_, .int .i64 1099511627776] 24))
    have Lk := Lib.hid (show w.heap.size ≤ gk from by rw [← hgk]; exact B.out.size)
    replace B := Lib.hid (B.out.alloc B.out.size (.cells #[.int .i64 p, .int .i64 S, .string s, .int .i64 at_, .int .i64 1099511627776] 24))
    go_upto_region 6 with (fail)
    try rw [hgk]
    generalize hw : w1.alloc (.cells #[.int .i64 p, .int .i64 S, .string s, .int .i64 at_, .int .i64 1099511627776] 24) = w2 at Ko Kk  B ⊢
    clear boc0 boc1 boc2 boc3 boc4
    clear hw hgk
    obtain ⟨boc0, boc1, boc2, boc3, boc4⟩ := five Ko.out
    obtain ⟨bkc0, bkc1, bkc2, bkc3, bkc4⟩ := five Kk.out
    go_wp2_with fail
    refine (VA.out _).mono ?_
    rintro e w3 ⟨rfl, hb⟩
    replace Ko := Lib.hid (Ko.out.below hb Ko.out.lt)
    replace Kk := Lib.hid (Kk.out.below hb Kk.out.lt)
    replace B := Lib.hid (B.out.trans (hb.mono B.out.size))
    clear boc0 boc1 boc2 boc3 boc4 bkc0 bkc1 bkc2 bkc3 bkc4
    clear hb
    obtain ⟨boc0, boc1, boc2, boc3, boc4⟩ := five Ko.out
    obtain ⟨bkc0, bkc1, bkc2, bkc3, bkc4⟩ := five Kk.out
    go_wp2
    go_ret2
    exact ⟨Rows.nil 9 _, B.out⟩
  · have te1 : decide (E ≤ o4) = false := decide_eq_false (by omega)
    have te2 : decide (o5 < at_) = true := decide_eq_true (by omega)
    clear hb HT a1 a2 a3 a4 v1 e1
    clear hp hN ok ka hlen hle hin hl hx k1 k2 k3 k4 k5 k6 k7 k8
    go_enter Tryd.func20, Tryd.ntmps20
    have B := Lib.hid (Below.refl w.heap.size w)
    have HG := Lib.hid (rfl : w.heap.size = w.heap.size)
    go_wp2_with fail
    refine (KO.out _ HP.out).mono ?_
    rintro e w1 ⟨rfl, hb⟩
    replace B := Lib.hid hb
    clear hb KO
    obtain ⟨b, off, rfl, q0, q1, q2, q3, q4⟩ := RwA.at_ (HP.out.mono B.out) (k := i) (by rw [HE.out]; exact hlt)
    rw [HX.out] at q0 q1 q2 q3 q4
    simp only at q0 q1 q2 q3 q4
    obtain ⟨go, hgo⟩ : ∃ G, w1.heap.size = G := ⟨_, rfl⟩
    have Ko := Lib.hid (show Blk (w1.alloc (.cells #[.int .i64 o1, .int .i64 o2, .string o3, .int .i64 o4, .int .i64 o5] 24)) go 24 #[.int .i64 o1, .int .i64 o2, .string o3, .int .i64 o4, .int .i64 o5] from Blk.new' w1 _ _ _ hgo rfl)
    have Lo := Lib.hid (show w.heap.size ≤ go from by rw [← hgo]; exact B.out.size)
    replace B := Lib.hid (B.out.alloc B.out.size (.cells #[.int .i64 o1, .int .i64 o2, .string o3, .int .i64 o4, .int .i64 o5] 24))
    go_upto_region 5 with (fail)
    try rw [hgo]
    generalize hw : w1.alloc (.cells #[.int .i64 o1, .int .i64 o2, .string o3, .int .i64 o4, .int .i64 o5] 24) = w1 at Ko  B ⊢
    clear hw hgo
    clear q0 q1 q2 q3 q4
    obtain ⟨boc0, boc1, boc2, boc3, boc4⟩ := five Ko.out
    obtain ⟨gk, hgk⟩ : ∃ G, w1.heap.size = G := ⟨_, rfl⟩
    have Kk := Lib.hid (show Blk (w1.alloc (.cells #[.int .i64 p, .int .i64 S, .string s, .int .i64 at_, .int .i64 1099511627776] 24)) gk 24 #[.int .i64 p, .int .i64 S, .string s, .int .i64 at_, .int .i64 1099511627776] from Blk.new' w1 _ _ _ hgk rfl)
    have Nok := Lib.hid (show go < gk from by rw [← hgk]; exact Ko.out.lt)
    replace Ko := Lib.hid (Ko.out.alloc (.cells #[.int .i64 p, .int .i64 S, .string s, .int .i64 at_, .int .i64 1099511627776] 24))
    have Lk := Lib.hid (show w.heap.size ≤ gk from by rw [← hgk]; exact B.out.size)
    replace B := Lib.hid (B.out.alloc B.out.size (.cells #[.int .i64 p, .int .i64 S, .string s, .int .i64 at_, .int .i64 1099511627776] 24))
    go_upto_region 6 with (fail)
    try rw [hgk]
    generalize hw : w1.alloc (.cells #[.int .i64 p, .int .i64 S, .string s, .int .i64 at_, .int .i64 1099511627776] 24) = w2 at Ko Kk  B ⊢
    clear boc0 boc1 boc2 boc3 boc4
    clear hw hgk
    obtain ⟨boc0, boc1, boc2, boc3, boc4⟩ := five Ko.out
    obtain ⟨bkc0, bkc1, bkc2, bkc3, bkc4⟩ := five Kk.out
    go_wp2_with fail
    refine (VA.out _).mono ?_
    rintro e w3 ⟨rfl, hb⟩
    replace Ko := Lib.hid (Ko.out.below hb Ko.out.lt)
    replace Kk := Lib.hid (Kk.out.below hb Kk.out.lt)
    replace B := Lib.hid (B.out.trans (hb.mono B.out.size))
    clear boc0 boc1 boc2 boc3 boc4 bkc0 bkc1 bkc2 bkc3 bkc4
    clear hb
    obtain ⟨boc0, boc1, boc2, boc3, boc4⟩ := five Ko.out
    obtain ⟨bkc0, bkc1, bkc2, bkc3, bkc4⟩ := five Kk.out
    go_wp2
    go_ret2
    exact ⟨Rows.nil 9 _, B.out⟩
set_option maxRecDepth 100000 in
set_option maxHeartbeats 2000000 in
theorem rot_limit (a : Option Addr) (c : Nat) (l : List Rw) (p : Int) (s : ByteArray) (at_ ov : Int) (w : World) (hp : RwA w a l) (F T : Nat) (KO : Hid (∀ X : World, RwA X a l → Calls Tryd.prog 61 #[.slice a l.length c, .int .i64 p] X fun e w' => e = .returned (.tuple #[.int .i64 F, .int .i64 T]) ∧ Below X.heap.size X w')) (ok : RingOk l) (ka : KeysAt l p F T) (h : F < T) (hb : ¬ argBad (p, (l.getD (lastL l p).toNat r0).2.1 + 1, s, at_, 1099511627776) at_ ov) (HT : ¬ (at_ + ov ≤ (l.getD (lastL l p).toNat r0).2.2.2.1 ∨ (l.getD (lastL l p).toNat r0).2.2.2.2 < at_)) (hlim : 1000 ≤ l.length) :
    Calls Tryd.prog 20 #[.slice a l.length c, .int .i64 p, .string s, .int .i64 at_, .int .i64 ov] w fun e w' => Rows (rotL l p s at_ ov) w' e ∧ Below w.heap.size w w' := by
  have HP := Lib.hid hp
  have hm := ok.few
  have hlen := ka.len
  have hle := ka.le
  obtain ⟨N, hN⟩ : ∃ N, l.length = N := ⟨_, rfl⟩
  have HE := Lib.hid hN
  obtain ⟨i, rfl⟩ : ∃ i, T = i + 1 := ⟨T - 1, by omega⟩
  have hl : lastL l p = (i : Int) := by rw [last_some ka h]; omega
  have hn : ¬ lastL l p < 0 := by rw [hl]; omega
  have ht : (lastL l p).toNat = i := by rw [hl]; rfl
  unfold rotL
  rw [if_neg hn, ht]
  rw [ht] at hb HT
  clear hn ht
  have hin : (l.getD i r0).1 = p := ka.inn i (by omega) (by omega)
  have hlt : i < l.length := by omega
  have ko := ok.keys i hlt
  have RP := Lib.hid (rot_pos ok.ord ka (by omega))
  obtain ⟨x, hx⟩ : ∃ y, l.getD i r0 = y := ⟨_, rfl⟩
  have HX := Lib.hid hx
  rw [hx] at hin ko RP hb HT ⊢
  obtain ⟨o1, o2, o3, o4, o5⟩ := x
  unfold keyOk at ko
  simp only at hin ko RP hb HT ⊢
  obtain ⟨⟨k1, k2⟩, ⟨k3, k4⟩, k5, k6, k7, k8⟩ := ko
  have wS : IntKind.i64.wrap (o2 + 1) = o2 + 1 := by rw [IntKind.wrap_i64]; omega
  obtain ⟨S, hS⟩ : ∃ z, o2 + 1 = z := ⟨_, rfl⟩
  rw [hS] at wS RP hb ⊢
  have wS2 : IntKind.i64.wrap S = S := wS
  have VA := Lib.hid (fun W : World => valid_any (p, S, s, at_, 1099511627776) W)
  simp only [encR] at VA
  rw [hN] at hlen hlt hm
  have t0 : ((F : Int) == ((i + 1 : Nat) : Int)) = false := by simp; omega
  have wi1 : IntKind.i64.wrap (((i + 1 : Nat) : Int) - 1) = (i : Int) := by rw [IntKind.wrap_i64]; omega
  have wi2 : ((i + 1 : Nat) : Int) - 1 = (i : Int) := by omega
  have wi3 : IntKind.i64.wrap (i : Int) = (i : Int) := by rw [IntKind.wrap_i64]; omega
  have i0 : (0 : Int) ≤ (i : Int) := by omega
  have iN : (i : Int) < (N : Int) := by omega
  simp only [hN] at KO
  rw [if_neg hb]
  unfold argBad at hb
  rw [hN]
  have a1 : ¬ at_ < 0 := fun q => hb (Or.inl q)
  have a2 : ¬ 1099511627776 < at_ := fun q => hb (Or.inr (Or.inl q))
  have a3 : ¬ ov < 0 := fun q => hb (Or.inr (Or.inr (Or.inl q)))
  have a4 : ¬ 1099511627776 < ov := fun q => hb (Or.inr (Or.inr (Or.inr (Or.inl q))))
  have v1 : keyB (p, S, s, at_, 1099511627776) = true := decide_eq_true (Decidable.of_not_not fun q => hb (Or.inr (Or.inr (Or.inr (Or.inr q)))))
  rw [v1] at VA
  have ta1 : decide (at_ < 0) = false := decide_eq_false (by omega)
  have ta2 : decide (1099511627776 < at_) = false := decide_eq_false (by omega)
  have ta3 : decide (ov < 0) = false := decide_eq_false (by omega)
  have ta4 : decide (1099511627776 < ov) = false := decide_eq_false (by omega)
  have wE : IntKind.i64.wrap (at_ + ov) = at_ + ov := by rw [IntKind.wrap_i64]; omega
  obtain ⟨E, hE⟩ : ∃ z, at_ + ov = z := ⟨_, rfl⟩
  rw [hE] at wE HT ⊢
  have wE2 : IntKind.i64.wrap E = E := wE
  rw [if_neg HT]
  have e1 : ¬ E ≤ o4 := fun q => HT (Or.inl q)
  have e2 : ¬ o5 < at_ := fun q => HT (Or.inr q)
  have te1 : decide (E ≤ o4) = false := decide_eq_false (by omega)
  have te2 : decide (o5 < at_) = false := decide_eq_false (by omega)
  rw [hN] at hlim
  rw [if_pos hlim]
  have tl : decide ((1000 : Int) ≤ (N : Int)) = true := decide_eq_true (by omega)
  clear hb HT a1 a2 a3 a4 v1 e1 e2 hlim
  clear hp hN ok ka hlen hle hin hl hx k1 k2 k3 k4 k5 k6 k7 k8
  go_enter Tryd.func20, Tryd.ntmps20
  have B := Lib.hid (Below.refl w.heap.size w)
  have HG := Lib.hid (rfl : w.heap.size = w.heap.size)
  go_wp2_with fail
  refine (KO.out _ HP.out).mono ?_
  rintro e w1 ⟨rfl, hb⟩
  replace B := Lib.hid hb
  clear hb KO
  obtain ⟨b, off, rfl, q0, q1, q2, q3, q4⟩ := RwA.at_ (HP.out.mono B.out) (k := i) (by rw [HE.out]; exact hlt)
  rw [HX.out] at q0 q1 q2 q3 q4
  simp only at q0 q1 q2 q3 q4
  obtain ⟨go, hgo⟩ : ∃ G, w1.heap.size = G := ⟨_, rfl⟩
  have Ko := Lib.hid (show Blk (w1.alloc (.cells #[.int .i64 o1, .int .i64 o2, .string o3, .int .i64 o4, .int .i64 o5] 24)) go 24 #[.int .i64 o1, .int .i64 o2, .string o3, .int .i64 o4, .int .i64 o5] from Blk.new' w1 _ _ _ hgo rfl)
  have Lo := Lib.hid (show w.heap.size ≤ go from by rw [← hgo]; exact B.out.size)
  replace B := Lib.hid (B.out.alloc B.out.size (.cells #[.int .i64 o1, .int .i64 o2, .string o3, .int .i64 o4, .int .i64 o5] 24))
  go_upto_region 5 with (fail)
  try rw [hgo]
  generalize hw : w1.alloc (.cells #[.int .i64 o1, .int .i64 o2, .string o3, .int .i64 o4, .int .i64 o5] 24) = w1 at Ko  B ⊢
  clear hw hgo
  clear q0 q1 q2 q3 q4
  obtain ⟨boc0, boc1, boc2, boc3, boc4⟩ := five Ko.out
  obtain ⟨gk, hgk⟩ : ∃ G, w1.heap.size = G := ⟨_, rfl⟩
  have Kk := Lib.hid (show Blk (w1.alloc (.cells #[.int .i64 p, .int .i64 S, .string s, .int .i64 at_, .int .i64 1099511627776] 24)) gk 24 #[.int .i64 p, .int .i64 S, .string s, .int .i64 at_, .int .i64 1099511627776] from Blk.new' w1 _ _ _ hgk rfl)
  have Nok := Lib.hid (show go < gk from by rw [← hgk]; exact Ko.out.lt)
  replace Ko := Lib.hid (Ko.out.alloc (.cells #[.int .i64 p, .int .i64 S, .string s, .int .i64 at_, .int .i64 1099511627776] 24))
  have Lk := Lib.hid (show w.heap.size ≤ gk from by rw [← hgk]; exact B.out.size)
  replace B := Lib.hid (B.out.alloc B.out.size (.cells #[.int .i64 p, .int .i64 S, .string s, .int .i64 at_, .int .i64 1099511627776] 24))
  go_upto_region 6 with (fail)
  try rw [hgk]
  generalize hw : w1.alloc (.cells #[.int .i64 p, .int .i64 S, .string s, .int .i64 at_, .int .i64 1099511627776] 24) = w2 at Ko Kk  B ⊢
  clear boc0 boc1 boc2 boc3 boc4
  clear hw hgk
  obtain ⟨boc0, boc1, boc2, boc3, boc4⟩ := five Ko.out
  obtain ⟨bkc0, bkc1, bkc2, bkc3, bkc4⟩ := five Kk.out
  go_wp2_with fail
  refine (VA.out _).mono ?_
  rintro e w3 ⟨rfl, hb⟩
  replace Ko := Lib.hid (Ko.out.below hb Ko.out.lt)
  replace Kk := Lib.hid (Kk.out.below hb Kk.out.lt)
  replace B := Lib.hid (B.out.trans (hb.mono B.out.size))
  clear boc0 boc1 boc2 boc3 boc4 bkc0 bkc1 bkc2 bkc3 bkc4
  clear hb
  obtain ⟨boc0, boc1, boc2, boc3, boc4⟩ := five Ko.out
  obtain ⟨bkc0, bkc1, bkc2, bkc3, bkc4⟩ := five Kk.out
  go_wp2
  go_ret2
  exact ⟨Rows.nil 2 _, B.out⟩
set_option maxRecDepth 100000 in
set_option maxHeartbeats 8000000 in
theorem rot_ok (a : Option Addr) (c : Nat) (l : List Rw) (p : Int) (s : ByteArray) (at_ ov : Int) (w : World) (hp : RwA w a l) (F T : Nat) (KO : Hid (∀ X : World, RwA X a l → Calls Tryd.prog 61 #[.slice a l.length c, .int .i64 p] X fun e w' => e = .returned (.tuple #[.int .i64 F, .int .i64 T]) ∧ Below X.heap.size X w')) (ok : RingOk l) (ka : KeysAt l p F T) (h : F < T) (hb : ¬ argBad (p, (l.getD (lastL l p).toNat r0).2.1 + 1, s, at_, 1099511627776) at_ ov) (HT : ¬ (at_ + ov ≤ (l.getD (lastL l p).toNat r0).2.2.2.1 ∨ (l.getD (lastL l p).toNat r0).2.2.2.2 < at_)) (hlim : ¬ 1000 ≤ l.length) :
    Calls Tryd.prog 20 #[.slice a l.length c, .int .i64 p, .string s, .int .i64 at_, .int .i64 ov] w fun e w' => Rows (rotL l p s at_ ov) w' e ∧ Below w.heap.size w w' := by
  have HP := Lib.hid hp
  have hm := ok.few
  have hlen := ka.len
  have hle := ka.le
  obtain ⟨N, hN⟩ : ∃ N, l.length = N := ⟨_, rfl⟩
  have HE := Lib.hid hN
  obtain ⟨i, rfl⟩ : ∃ i, T = i + 1 := ⟨T - 1, by omega⟩
  have hl : lastL l p = (i : Int) := by rw [last_some ka h]; omega
  have hn : ¬ lastL l p < 0 := by rw [hl]; omega
  have ht : (lastL l p).toNat = i := by rw [hl]; rfl
  unfold rotL
  rw [if_neg hn, ht]
  rw [ht] at hb HT
  clear hn ht
  have hin : (l.getD i r0).1 = p := ka.inn i (by omega) (by omega)
  have hlt : i < l.length := by omega
  have ko := ok.keys i hlt
  have RP := Lib.hid (rot_pos ok.ord ka (by omega))
  obtain ⟨x, hx⟩ : ∃ y, l.getD i r0 = y := ⟨_, rfl⟩
  have HX := Lib.hid hx
  rw [hx] at hin ko RP hb HT ⊢
  obtain ⟨o1, o2, o3, o4, o5⟩ := x
  unfold keyOk at ko
  simp only at hin ko RP hb HT ⊢
  obtain ⟨⟨k1, k2⟩, ⟨k3, k4⟩, k5, k6, k7, k8⟩ := ko
  have wS : IntKind.i64.wrap (o2 + 1) = o2 + 1 := by rw [IntKind.wrap_i64]; omega
  obtain ⟨S, hS⟩ : ∃ z, o2 + 1 = z := ⟨_, rfl⟩
  rw [hS] at wS RP hb ⊢
  have wS2 : IntKind.i64.wrap S = S := wS
  have VA := Lib.hid (fun W : World => valid_any (p, S, s, at_, 1099511627776) W)
  simp only [encR] at VA
  rw [hN] at hlen hlt hm
  have t0 : ((F : Int) == ((i + 1 : Nat) : Int)) = false := by simp; omega
  have wi1 : IntKind.i64.wrap (((i + 1 : Nat) : Int) - 1) = (i : Int) := by rw [IntKind.wrap_i64]; omega
  have wi2 : ((i + 1 : Nat) : Int) - 1 = (i : Int) := by omega
  have wi3 : IntKind.i64.wrap (i : Int) = (i : Int) := by rw [IntKind.wrap_i64]; omega
  have i0 : (0 : Int) ≤ (i : Int) := by omega
  have iN : (i : Int) < (N : Int) := by omega
  simp only [hN] at KO
  rw [if_neg hb]
  unfold argBad at hb
  rw [hN]
  have a1 : ¬ at_ < 0 := fun q => hb (Or.inl q)
  have a2 : ¬ 1099511627776 < at_ := fun q => hb (Or.inr (Or.inl q))
  have a3 : ¬ ov < 0 := fun q => hb (Or.inr (Or.inr (Or.inl q)))
  have a4 : ¬ 1099511627776 < ov := fun q => hb (Or.inr (Or.inr (Or.inr (Or.inl q))))
  have v1 : keyB (p, S, s, at_, 1099511627776) = true := decide_eq_true (Decidable.of_not_not fun q => hb (Or.inr (Or.inr (Or.inr (Or.inr q)))))
  rw [v1] at VA
  have ta1 : decide (at_ < 0) = false := decide_eq_false (by omega)
  have ta2 : decide (1099511627776 < at_) = false := decide_eq_false (by omega)
  have ta3 : decide (ov < 0) = false := decide_eq_false (by omega)
  have ta4 : decide (1099511627776 < ov) = false := decide_eq_false (by omega)
  have wE : IntKind.i64.wrap (at_ + ov) = at_ + ov := by rw [IntKind.wrap_i64]; omega
  obtain ⟨E, hE⟩ : ∃ z, at_ + ov = z := ⟨_, rfl⟩
  rw [hE] at wE HT ⊢
  have wE2 : IntKind.i64.wrap E = E := wE
  rw [if_neg HT]
  have e1 : ¬ E ≤ o4 := fun q => HT (Or.inl q)
  have e2 : ¬ o5 < at_ := fun q => HT (Or.inr q)
  have te1 : decide (E ≤ o4) = false := decide_eq_false (by omega)
  have te2 : decide (o5 < at_) = false := decide_eq_false (by omega)
  rw [hN] at hlim
  rw [if_neg hlim]
  have tl : decide ((1000 : Int) ≤ (N : Int)) = false := decide_eq_false (by omega)
  have hil : i + 1 ≤ N := hlen
  clear hb HT a1 a2 a3 a4 v1 e1 e2 hlim
  clear hp hN ok ka hlen hle hin hl hx k1 k2 k3 k4 k5 k6 k7 k8
  go_enter Tryd.func20, Tryd.ntmps20
  have B := Lib.hid (Below.refl w.heap.size w)
  have HG := Lib.hid (rfl : w.heap.size = w.heap.size)
  go_wp2_with fail
  refine (KO.out _ HP.out).mono ?_
  rintro e w1 ⟨rfl, hb⟩
  replace B := Lib.hid hb
  clear hb KO
  obtain ⟨b, off, rfl, q0, q1, q2, q3, q4⟩ := RwA.at_ (HP.out.mono B.out) (k := i) (by rw [HE.out]; exact hlt)
  rw [HX.out] at q0 q1 q2 q3 q4
  simp only at q0 q1 q2 q3 q4
  obtain ⟨go, hgo⟩ : ∃ G, w1.heap.size = G := ⟨_, rfl⟩
  have Ko := Lib.hid (show Blk (w1.alloc (.cells #[.int .i64 o1, .int .i64 o2, .string o3, .int .i64 o4, .int .i64 o5] 24)) go 24 #[.int .i64 o1, .int .i64 o2, .string o3, .int .i64 o4, .int .i64 o5] from Blk.new' w1 _ _ _ hgo rfl)
  have Lo := Lib.hid (show w.heap.size ≤ go from by rw [← hgo]; exact B.out.size)
  replace B := Lib.hid (B.out.alloc B.out.size (.cells #[.int .i64 o1, .int .i64 o2, .string o3, .int .i64 o4, .int .i64 o5] 24))
  go_upto_region 5 with (fail)
  try rw [hgo]
  generalize hw : w1.alloc (.cells #[.int .i64 o1, .int .i64 o2, .string o3, .int .i64 o4, .int .i64 o5] 24) = w1 at Ko  B ⊢
  clear hw hgo
  clear q0 q1 q2 q3 q4
  obtain ⟨boc0, boc1, boc2, boc3, boc4⟩ := five Ko.out
  obtain ⟨gk, hgk⟩ : ∃ G, w1.heap.size = G := ⟨_, rfl⟩
  have Kk := Lib.hid (show Blk (w1.alloc (.cells #[.int .i64 p, .int .i64 S, .string s, .int .i64 at_, .int .i64 1099511627776] 24)) gk 24 #[.int .i64 p, .int .i64 S, .string s, .int .i64 at_, .int .i64 1099511627776] from Blk.new' w1 _ _ _ hgk rfl)
  have Nok := Lib.hid (show go < gk from by rw [← hgk]; exact Ko.out.lt)
  replace Ko := Lib.hid (Ko.out.alloc (.cells #[.int .i64 p, .int .i64 S, .string s, .int .i64 at_, .int .i64 1099511627776] 24))
  have Lk := Lib.hid (show w.heap.size ≤ gk from by rw [← hgk]; exact B.out.size)
  replace B := Lib.hid (B.out.alloc B.out.size (.cells #[.int .i64 p, .int .i64 S, .string s, .int .i64 at_, .int .i64 1099511627776] 24))
  go_upto_region 6 with (fail)
  try rw [hgk]
  generalize hw : w1.alloc (.cells #[.int .i64 p, .int .i64 S, .string s, .int .i64 at_, .int .i64 1099511627776] 24) = w2 at Ko Kk  B ⊢
  clear boc0 boc1 boc2 boc3 boc4
  clear hw hgk
  obtain ⟨boc0, boc1, boc2, boc3, boc4⟩ := five Ko.out
  obtain ⟨bkc0, bkc1, bkc2, bkc3, bkc4⟩ := five Kk.out
  go_wp2_with fail
  refine (VA.out _).mono ?_
  rintro e w3 ⟨rfl, hb⟩
  replace Ko := Lib.hid (Ko.out.below hb Ko.out.lt)
  replace Kk := Lib.hid (Kk.out.below hb Kk.out.lt)
  replace B := Lib.hid (B.out.trans (hb.mono B.out.size))
  clear boc0 boc1 boc2 boc3 boc4 bkc0 bkc1 bkc2 bkc3 bkc4
  clear hb
  obtain ⟨boc0, boc1, boc2, boc3, boc4⟩ := five Ko.out
  obtain ⟨bkc0, bkc1, bkc2, bkc3, bkc4⟩ := five Kk.out
  go_upto_region 12 with (fail)
  clear boc0 boc1 boc2 boc3 boc4 bkc0 bkc1 bkc2 bkc3 bkc4
  obtain ⟨boc0, boc1, boc2, boc3, boc4⟩ := five Ko.out
  obtain ⟨bkc0, bkc1, bkc2, bkc3, bkc4⟩ := five Kk.out
  have CL := Lib.hid (fun (X : World) (h : Below w3.heap.size w3 X) => Ke.clone_any _ c l X (HP.out.mono (B.out.trans (h.mono B.out.size))) (by rw [HE.out]; omega))
  simp only [HE.out] at CL
  have IN := Lib.hid (fun (v : Value) (vb : Nat) (X : World) (ho : Ke.OwnA X w3.heap.size v l) (hx : Blk X vb 24 #[.int .i64 p, .int .i64 S, .string s, .int .i64 at_, .int .i64 1099511627776]) (hv : ∀ k, v.ownBlock = some k → vb ≠ k) (hs : w3.heap.size ≤ X.heap.size) => Ke.ins_any v l (i + 1) (p, S, s, at_, 1099511627776) vb w3.heap.size X ho (by rw [HE.out]; omega) (by rw [HE.out]; omega) hs hx hv)
  have ec : ((i + 1 : Nat) : Int) = (i : Int) + 1 := by omega
  simp only [ec] at IN
  clear ec
  have BX1 := Lib.hid (show Below w3.heap.size w3 w3.drew from by (repeat' (first | (with_reducible exact Below.refl _ _) | (with_reducible assumption) | (with_reducible refine Below.alloc ?_ ?_ _) | (with_reducible refine Below.drew ?_) | (with_reducible refine below_dn ?_) | (with_reducible refine Below.setCell ?_ ?_ _) | (with_reducible exact Nat.le_refl _) | omega | (simp only [World.size_alloc, World.size_setCell, World.size_drew]; omega) | (simp; omega) | (simp; done))))
  have BX2 := Lib.hid (show Below w3.heap.size w3 (w3.drew.alloc (.cells #[.int .i64 p, .int .i64 S, .string s, .int .i64 at_, .int .i64 1099511627776] 24)) from by (repeat' (first | (with_reducible exact Below.refl _ _) | (with_reducible assumption) | (with_reducible refine Below.alloc ?_ ?_ _) | (with_reducible refine Below.drew ?_) | (with_reducible refine below_dn ?_) | (with_reducible refine Below.setCell ?_ ?_ _) | (with_reducible exact Nat.le_refl _) | omega | (simp only [World.size_alloc, World.size_setCell, World.size_drew]; omega) | (simp; omega) | (simp; done))))
  have BX3 := Lib.hid (show Below w3.heap.size w3 (w3.alloc (.cells #[.int .i64 p, .int .i64 S, .string s, .int .i64 at_, .int .i64 1099511627776] 24)).drew from by (repeat' (first | (with_reducible exact Below.refl _ _) | (with_reducible assumption) | (with_reducible refine Below.alloc ?_ ?_ _) | (with_reducible refine Below.drew ?_) | (with_reducible refine below_dn ?_) | (with_reducible refine Below.setCell ?_ ?_ _) | (with_reducible exact Nat.le_refl _) | omega | (simp only [World.size_alloc, World.size_setCell, World.size_drew]; omega) | (simp; omega) | (simp; done))))
  have BX4 := Lib.hid (show Below w3.heap.size w3 w3 from by (repeat' (first | (with_reducible exact Below.refl _ _) | (with_reducible assumption) | (with_reducible refine Below.alloc ?_ ?_ _) | (with_reducible refine Below.drew ?_) | (with_reducible refine below_dn ?_) | (with_reducible refine Below.setCell ?_ ?_ _) | (with_reducible exact Nat.le_refl _) | omega | (simp only [World.size_alloc, World.size_setCell, World.size_drew]; omega) | (simp; omega) | (simp; done))))
  go_cut [16] from 72 to 78 (fun u wx => ∃ b9 n9 c9, u = .slice b9 n9 c9 ∧ Hid (Ke.OwnA wx w3.heap.size (.slice b9 n9 c9) (insL l (i + 1) (p, S, s, at_, 1099511627776))) ∧ Hid (Below w3.heap.size w3 wx))
  case first =>
    go_region_with (first | (go_at_call 59; (first | (with_reducible refine (CL.out _ BX1.out).mono ?_) | (with_reducible refine (CL.out _ BX2.out).mono ?_) | (with_reducible refine (CL.out _ BX3.out).mono ?_) | (with_reducible refine (CL.out _ BX4.out).mono ?_)); rintro e wd ⟨v, rfl, ho, hb⟩; have BV := Lib.hid (show Below w3.heap.size w3 wd from by refine Below.trans ?_ (hb.mono ?_) <;> (repeat' (first | (with_reducible exact Below.refl _ _) | (with_reducible assumption) | (with_reducible refine Below.alloc ?_ ?_ _) | (with_reducible refine Below.drew ?_) | (with_reducible refine below_dn ?_) | (with_reducible refine Below.setCell ?_ ?_ _) | (with_reducible exact Nat.le_refl _) | omega | (simp only [World.size_alloc, World.size_setCell, World.size_drew]; omega) | (simp; omega) | (simp; done)))); have HV := Lib.hid (fun k hk => own_lt ho k hk); have HO := Lib.hid (OwnR.weak ho (show w3.heap.size ≤ _ by first | exact Nat.le_refl _ | (simp only [World.size_alloc, World.size_drew]; omega))); have KD := Lib.hid (Kk.out.below BV.out Kk.out.lt); obtain ⟨y0, y1, y2, y3, y4⟩ := five KD.out; have I1 := Lib.hid (IN.out v wd.heap.size (wd.alloc (.cells #[.int .i64 p, .int .i64 S, .string s, .int .i64 at_, .int .i64 1099511627776] 24)) (HO.out.alloc _) (Blk.new' wd _ _ _ rfl rfl) (fun k hk => by have := HV.out k hk; omega) (by have := BV.out.size; rw [World.size_alloc]; omega)); (try (refine (have OZ : Hid (Blk wd w3.heap.size 24 #[.int .i64 p, .int .i64 S, .string s, .int .i64 at_, .int .i64 1099511627776]) := ?hz; ?_); (case hz => first | exact Lib.hid (Blk.below (Blk.new' _ _ _ _ rfl rfl) hb (by simp)) | exact Lib.hid (Blk.below (Blk.drew (Blk.new' _ _ _ _ rfl rfl)) hb (by simp))); (try (have I2 := Lib.hid (IN.out v w3.heap.size wd HO.out OZ.out (fun k hk => by have := HV.out k hk; simp at this; omega) BV.out.size))))); clear hb ho) | (go_at_call 58; (first | (with_reducible refine I1.out.mono ?_) | (with_reducible refine I2.out.mono ?_)); rintro e we ⟨v2, rfl, ho2, hb2⟩))
    all_goals go_wp2_with fail
    all_goals go_meet
    all_goals obtain ⟨a9, c9, e9, -, -⟩ := OwnR.view encR_len ho2
    all_goals subst e9
    all_goals exact ⟨a9, _, c9, rfl, Lib.hid ho2, Lib.hid (by first | exact (BV.out.alloc BV.out.size _).trans hb2 | exact BV.out.trans hb2)⟩
  obtain ⟨b9, n9, c9, rfl, HO, BO⟩ := hcut
  clear CL IN
  clear boc0 boc1 boc2 boc3 boc4 bkc0 bkc1 bkc2 bkc3 bkc4
  replace Ko := Lib.hid (Ko.out.below BO.out Ko.out.lt)
  replace Kk := Lib.hid (Kk.out.below BO.out Kk.out.lt)
  have hB0 : w.heap.size ≤ w3.heap.size := B.out.size
  replace B := Lib.hid (B.out.trans (BO.out.mono B.out.size))
  obtain ⟨boc0, boc1, boc2, boc3, boc4⟩ := five Ko.out
  obtain ⟨bkc0, bkc1, bkc2, bkc3, bkc4⟩ := five Kk.out
  have hi7 : i < (insL l (i + 1) (p, S, s, at_, 1099511627776)).length := by rw [insL_len _ _ _ (by rw [HE.out]; omega), HE.out]; omega
  have hxx : (insL l (i + 1) (p, S, s, at_, 1099511627776)).getD i r0 = (o1, o2, o3, o4, o5) := by rw [ins_at_lt _ _ _ _ (by rw [HE.out]; omega) (by omega)]; exact HX.out
  have HIS := Lib.hid (ins_set l i (p, S, s, at_, 1099511627776) (o1, o2, o3, o4, min o5 E) (by rw [HE.out]; omega))
  obtain ⟨g7, rfl, hn7, hB7, e0, e1, e2, e3, e4, fz7⟩ := own_at HO.out hi7
  have ST := Lib.hid (own_set (j := 4) HO.out hi7 (by decide) (.int .i64 (min o5 E)) (o1, o2, o3, o4, min o5 E) (by rw [hxx]; rfl))
  rw [hxx] at e0 e1 e2 e3 e4
  simp only at e0 e1 e2 e3 e4
  obtain ⟨U, hU⟩ : ∃ z, min o5 E = z := ⟨_, rfl⟩
  have hU2 : (if E < o5 then E else o5) = U := by rw [← hU, Int.min_def]; split <;> split <;> omega
  have hU3 : min E o5 = U := by rw [Int.min_comm]; exact hU
  rw [HIS.out, hU] at ST
  have UE := Lib.hid hU
  have n0 : (i : Int) < (n9 : Int) := by rw [hn7, insL_len _ _ _ (by rw [HE.out]; omega), HE.out]; omega
  have B9 := Lib.hid (B.out.setCell (p := ⟨g7, i * 5 + 4, none⟩) (show w.heap.size ≤ g7 by omega) (.int .i64 U))
  clear hn7 hxx hi7 HO HIS hB0
  go_wp2
  generalize hw9 : wc.setCell ⟨g7, i * 5 + 4, none⟩ (.int .i64 U) = w9 at ST B9 ⊢
  clear hw9
  go_ret2
  exact ⟨by rw [UE.out]; exact Rows.own 0 ST.out, B9.out⟩
theorem rot_any (a : Option Addr) (c : Nat) (l : List Rw) (p : Int) (s : ByteArray) (at_ ov : Int) (w : World) (hp : RwA w a l) (ok : RingOk l) :
    Calls Tryd.prog 20 #[.slice a l.length c, .int .i64 p, .string s, .int .i64 at_, .int .i64 ov] w fun e w' => Rows (rotL l p s at_ ov) w' e ∧ Below w.heap.size w w' := by
  obtain ⟨F, T, KO, ka⟩ := keys_fix a c l p ok
  by_cases h : F < T
  · by_cases hb : argBad (p, (l.getD (lastL l p).toNat r0).2.1 + 1, s, at_, 1099511627776) at_ ov
    · exact rot_arg a c l p s at_ ov w hp F T (Lib.hid KO) ok ka h hb
    · by_cases HT : at_ + ov ≤ (l.getD (lastL l p).toNat r0).2.2.2.1 ∨ (l.getD (lastL l p).toNat r0).2.2.2.2 < at_
      · exact rot_time a c l p s at_ ov w hp F T (Lib.hid KO) ok ka h hb HT
      · by_cases hlim : 1000 ≤ l.length
        · exact rot_limit a c l p s at_ ov w hp F T (Lib.hid KO) ok ka h hb HT hlim
        · exact rot_ok a c l p s at_ ov w hp F T (Lib.hid KO) ok ka h hb HT hlim
  · exact rot_name a c l p s at_ ov w hp F T (Lib.hid KO) ok ka (by have := ka.le; omega)
end
section
open Go.RowKit Go.Sort
set_option maxRecDepth 100000 in
set_option maxHeartbeats 2000000 in
theorem last_any (a : Option Addr) (c : Nat) (l : List Rw) (p : Int) (w : World) (hp : RwA w a l) (hm : l.length ≤ 1000000) :
    Calls Tryd.prog 63 #[.slice a l.length c, .int .i64 p] w fun e w' => e = .returned (.int .i64 (lastL l p)) ∧ Below w.heap.size w w' := by
  have HP := Lib.hid hp
  have HC := Lib.hid (fun k : Nat => show lastK l p (k + 1) = if (l.getD k r0).1 = p then (k : Int) else lastK l p k from rfl)
  obtain ⟨N, hN⟩ : ∃ N, l.length = N := ⟨_, rfl⟩
  have HE := Lib.hid hN
  have HL := Lib.hid (show lastK l p N = lastL l p from by rw [← hN]; rfl)
  obtain ⟨R, hR⟩ : ∃ z, lastL l p = z := ⟨_, rfl⟩
  rw [hR] at HL ⊢
  rw [hN] at hm ⊢
  clear hp hN hR
  go_enter Tryd.func63, Tryd.ntmps63
  go_wp2
  go_loopw [5, 6] (fun u5 u6 wr => ∃ (k : Nat) (r : Int), k ≤ N ∧ u6 = .int .i64 k ∧ u5 = .int .i64 r ∧ Hid (lastK l p k = r) ∧ Hid (Below w.heap.size w wr)) (fun _ u6 _ => (N - intOf u6).toNat)
  case atStart => exact ⟨0, -1, by omega, rfl, rfl, Lib.hid rfl, Lib.hid (Below.refl _ _)⟩
  case round =>
    obtain ⟨k, r, hk, rfl, rfl, HJ, B⟩ := hrel
    by_cases hlt : k < N
    · have t0 : decide ((k : Int) < (N : Int)) = true := decide_eq_true (by omega)
      have wk : IntKind.i64.wrap ((k : Int) + 1) = (k : Int) + 1 := by rw [IntKind.wrap_i64]; omega
      obtain ⟨b, off, rfl, q0, q1, q2, q3, q4⟩ := RwA.at_ (HP.out.mono B.out) (k := k) (by rw [HE.out]; exact hlt)
      obtain ⟨x, hx⟩ : ∃ y, l.getD k r0 = y := ⟨_, rfl⟩
      rw [hx] at q0 q1 q2 q3 q4
      have HX := Lib.hid hx
      clear hx
      have k0 : (0 : Int) ≤ (k : Int) := by omega
      have kN : (k : Int) < (N : Int) := by omega
      obtain ⟨x1, x2, x3, x4, x5⟩ := x
      simp only at q0 q1 q2 q3 q4
      have HN := HC.out k
      rw [HX.out, HJ.out] at HN
      by_cases e1 : x1 = p
      · have t1 : (x1 == p) = true := beq_iff_eq.2 e1
        rw [if_pos e1] at HN
        have HN2 := Lib.hid HN
        clear e1 HN
        go_wp2
        go_roundw
        case rel => exact ⟨k + 1, k, by omega, by go_num, rfl, HN2, B⟩
        case measure => simp [intOf]; omega
      · have t1 : (x1 == p) = false := beq_eq_false_iff_ne.2 e1
        rw [if_neg e1] at HN
        have HN2 := Lib.hid HN
        clear e1 HN
        go_wp2
        go_roundw
        case rel => exact ⟨k + 1, r, by omega, by go_num, rfl, HN2, B⟩
        case measure => simp [intOf]; omega
    · obtain rfl : k = N := by omega
      have RE := Lib.hid (show r = R by rw [← HJ.out]; exact HL.out)
      go_wp2
      go_ret
      exact ⟨ret_int RE.out, B.out⟩
set_option maxRecDepth 100000 in
set_option maxHeartbeats 2000000 in
theorem rrot_name (a : Option Addr) (c : Nat) (l : List Rw) (p : Int) (s : ByteArray) (at_ ov : Int) (w : World) (hp : RwA w a l) (ok : RingOk l) (F T : Nat) (ka : KeysAt l p F T) (h : F = T) :
    Calls Tryd.prog 21 #[.slice a l.length c, .int .i64 p, .string s, .int .i64 at_, .int .i64 ov] w fun e w' => RowsS (rotL l p s at_ ov) w' e ∧ Below w.heap.size w w' := by
  have HP := Lib.hid hp
  have hm := ok.few
  obtain ⟨N, hN⟩ : ∃ N, l.length = N := ⟨_, rfl⟩
  have HE := Lib.hid hN
  have LA := Lib.hid (fun (X : World) (h : RwA X a l) => last_any a c l p X h (by omega))
  subst h
  have hl := last_none ka
  unfold rotL
  rw [if_pos (by rw [hl]; decide)]
  simp only [hN, hl] at LA
  rw [hN]
  clear hp hN ok ka hm hl
  go_enter Tryd.func21, Tryd.ntmps21
  obtain ⟨G, hG⟩ : ∃ G, w.heap.size = G := ⟨_, rfl⟩
  have HG := Lib.hid hG
  have Kr := Lib.hid (show Blk (w.alloc (.cells #[.slice none 0 0, .int .i64 0] 34)) (G) 34 #[.slice none 0 0, .int .i64 0] from Blk.new' _ _ _ _ hG rfl)
  have B := Lib.hid (show Below w.heap.size w (w.alloc (.cells #[.slice none 0 0, .int .i64 0] 34)) by (repeat' (first | (with_reducible exact Below.refl _ _) | (with_reducible assumption) | (with_reducible refine Below.alloc ?_ ?_ _) | (with_reducible refine Below.drew ?_) | (with_reducible refine below_dn ?_) | (with_reducible refine Below.setCell ?_ ?_ _) | (with_reducible exact Nat.le_refl _) | omega | (simp only [World.size_alloc, World.size_setCell, World.size_drew]; omega) | (simp; omega) | (simp; done))))
  go_upto_region 1 with (fail)
  try rw [hG]
  generalize hw0 : (w.alloc (.cells #[.slice none 0 0, .int .i64 0] 34)) = w0 at Kr B ⊢
  clear hw0 hG
  obtain ⟨brc0, brc1⟩ := twob Kr.out
  go_wp2_with fail
  refine (LA.out _ (HP.out.mono B.out)).mono ?_
  rintro e w1 ⟨rfl, hb⟩
  replace Kr := Lib.hid (Kr.out.below hb Kr.out.lt)
  replace B := Lib.hid (B.out.trans (hb.mono B.out.size))
  clear brc0 brc1
  clear hb
  obtain ⟨brc0, brc1⟩ := twob Kr.out
  clear brc0 brc1
  obtain ⟨brc0, brc1⟩ := twob Kr.out
  have fzr := fun q => Kr.out.frozen q
  go_wp2
  have K9 := Lib.hid (show Blk ((w1.setCell ⟨G, 0, none⟩ (.slice none 0 0)).setCell ⟨G, 1, none⟩ (.int .i64 5)) (G) 34 #[.slice none 0 0, .int .i64 5] from ((Kr.out.set_ 0 (.slice none 0 0)).set_ 1 (.int .i64 5)))
  have B9 := ((B.out.setCell (p := ⟨G, 0, none⟩) (show w.heap.size ≤ G by have := HG.out; omega) (.slice none 0 0)).setCell (p := ⟨G, 1, none⟩) (show w.heap.size ≤ G by have := HG.out; omega) (.int .i64 5))
  generalize hw2 : ((w1.setCell ⟨G, 0, none⟩ (.slice none 0 0)).setCell ⟨G, 1, none⟩ (.int .i64 5)) = w9 at K9 B9 ⊢
  clear brc0 brc1 fzr
  clear hw2
  obtain ⟨d0, d1⟩ := twob K9.out
  refine bodyPost_ret (by simp [results, Tryd.results21, go_sem, d0, d1]; try rfl) rfl ?_
  exact ⟨RowsS.nil 5 _, B9⟩
set_option maxRecDepth 100000 in
set_option maxHeartbeats 2000000 in
theorem rrot_arg (a : Option Addr) (c : Nat) (l : List Rw) (p : Int) (s : ByteArray) (at_ ov : Int) (w : World) (hp : RwA w a l) (ok : RingOk l) (F T : Nat) (ka : KeysAt l p F T) (h : F < T) (hb : argBad (p, (l.getD (lastL l p).toNat r0).2.1 + 1, s, at_, 1099511627776) at_ ov) :
    Calls Tryd.prog 21 #[.slice a l.length c, .int .i64 p, .string s, .int .i64 at_, .int .i64 ov] w fun e w' => RowsS (rotL l p s at_ ov) w' e ∧ Below w.heap.size w w' := by
  have HP := Lib.hid hp
  have hm := ok.few
  obtain ⟨N, hN⟩ : ∃ N, l.length = N := ⟨_, rfl⟩
  have HE := Lib.hid hN
  have LA := Lib.hid (fun (X : World) (h : RwA X a l) => last_any a c l p X h (by omega))
  have hlen := ka.len
  have hle := ka.le
  obtain ⟨i, rfl⟩ : ∃ i, T = i + 1 := ⟨T - 1, by omega⟩
  have hl : lastL l p = (i : Int) := by rw [last_some ka h]; omega
  have hn : ¬ lastL l p < 0 := by rw [hl]; omega
  have ht : (lastL l p).toNat = i := by rw [hl]; rfl
  unfold rotL
  rw [if_neg hn, ht]
  rw [ht] at hb
  clear hn ht
  have hin : (l.getD i r0).1 = p := ka.inn i (by omega) (by omega)
  have hlt : i < l.length := by omega
  have ko := ok.keys i hlt
  have RP := Lib.hid (rot_pos ok.ord ka (by omega))
  obtain ⟨x, hx⟩ : ∃ y, l.getD i r0 = y := ⟨_, rfl⟩
  have HX := Lib.hid hx
  rw [hx] at hin ko RP hb ⊢
  obtain ⟨o1, o2, o3, o4, o5⟩ := x
  unfold keyOk at ko
  simp only at hin ko RP hb ⊢
  obtain ⟨⟨k1, k2⟩, ⟨k3, k4⟩, k5, k6, k7, k8⟩ := ko
  have wS : IntKind.i64.wrap (o2 + 1) = o2 + 1 := by rw [IntKind.wrap_i64]; omega
  obtain ⟨S, hS⟩ : ∃ z, o2 + 1 = z := ⟨_, rfl⟩
  rw [hS] at wS RP hb ⊢
  have wS2 : IntKind.i64.wrap S = S := wS
  have VA := Lib.hid (fun W : World => rvalid_any (p, S, s, at_, 1099511627776) W)
  simp only [encR] at VA
  rw [hN] at hlen hlt hm
  have i0 : (0 : Int) ≤ (i : Int) := by omega
  have iN : (i : Int) < (N : Int) := by omega
  simp only [hN, hl] at LA
  have t0 : decide ((i : Int) < 0) = false := decide_eq_false (by omega)
  rw [if_pos hb]
  unfold argBad at hb
  rw [hN]
  by_cases a1 : at_ < 0
  · have ta1 : decide (at_ < 0) = true := decide_eq_true (by omega)
    clear hb a1
    clear hp hN ok ka hlen hle hin hl hx k1 k2 k3 k4 k5 k6 k7 k8
    go_enter Tryd.func21, Tryd.ntmps21
    obtain ⟨G, hG⟩ : ∃ G, w.heap.size = G := ⟨_, rfl⟩
    have HG := Lib.hid hG
    have Kr := Lib.hid (show Blk (w.alloc (.cells #[.slice none 0 0, .int .i64 0] 34)) (G) 34 #[.slice none 0 0, .int .i64 0] from Blk.new' _ _ _ _ hG rfl)
    have B := Lib.hid (show Below w.heap.size w (w.alloc (.cells #[.slice none 0 0, .int .i64 0] 34)) by (repeat' (first | (with_reducible exact Below.refl _ _) | (with_reducible assumption) | (with_reducible refine Below.alloc ?_ ?_ _) | (with_reducible refine Below.drew ?_) | (with_reducible refine below_dn ?_) | (with_reducible refine Below.setCell ?_ ?_ _) | (with_reducible exact Nat.le_refl _) | omega | (simp only [World.size_alloc, World.size_setCell, World.size_drew]; omega) | (simp; omega) | (simp; done))))
    go_upto_region 1 with (fail)
    try rw [hG]
    generalize hw0 : (w.alloc (.cells #[.slice none 0 0, .int .i64 0] 34)) = w0 at Kr B ⊢
    clear hw0 hG
    obtain ⟨brc0, brc1⟩ := twob Kr.out
    go_wp2_with fail
    refine (LA.out _ (HP.out.mono B.out)).mono ?_
    rintro e w1 ⟨rfl, hb⟩
    replace Kr := Lib.hid (Kr.out.below hb Kr.out.lt)
    replace B := Lib.hid (B.out.trans (hb.mono B.out.size))
    clear brc0 brc1
    clear hb
    obtain ⟨brc0, brc1⟩ := twob Kr.out
    clear brc0 brc1
    obtain ⟨brc0, brc1⟩ := twob Kr.out
    have fzr := fun q => Kr.out.frozen q
    go_wp2
    have K9 := Lib.hid (show Blk ((w1.setCell ⟨G, 0, none⟩ (.slice none 0 0)).setCell ⟨G, 1, none⟩ (.int .i64 1)) (G) 34 #[.slice none 0 0, .int .i64 1] from ((Kr.out.set_ 0 (.slice none 0 0)).set_ 1 (.int .i64 1)))
    have B9 := ((B.out.setCell (p := ⟨G, 0, none⟩) (show w.heap.size ≤ G by have := HG.out; omega) (.slice none 0 0)).setCell (p := ⟨G, 1, none⟩) (show w.heap.size ≤ G by have := HG.out; omega) (.int .i64 1))
    generalize hw2 : ((w1.setCell ⟨G, 0, none⟩ (.slice none 0 0)).setCell ⟨G, 1, none⟩ (.int .i64 1)) = w9 at K9 B9 ⊢
    clear brc0 brc1 fzr
    clear hw2
    obtain ⟨d0, d1⟩ := twob K9.out
    refine bodyPost_ret (by simp [results, Tryd.results21, go_sem, d0, d1]; try rfl) rfl ?_
    exact ⟨RowsS.nil 1 _, B9⟩
  · have ta1 : decide (at_ < 0) = false := decide_eq_false (by omega)
    by_cases a2 : 1099511627776 < at_
    · have ta2 : decide (1099511627776 < at_) = true := decide_eq_true (by omega)
      clear hb a1 a2
      clear hp hN ok ka hlen hle hin hl hx k1 k2 k3 k4 k5 k6 k7 k8
      go_enter Tryd.func21, Tryd.ntmps21
      obtain ⟨G, hG⟩ : ∃ G, w.heap.size = G := ⟨_, rfl⟩
      have HG := Lib.hid hG
      have Kr := Lib.hid (show Blk (w.alloc (.cells #[.slice none 0 0, .int .i64 0] 34)) (G) 34 #[.slice none 0 0, .int .i64 0] from Blk.new' _ _ _ _ hG rfl)
      have B := Lib.hid (show Below w.heap.size w (w.alloc (.cells #[.slice none 0 0, .int .i64 0] 34)) by (repeat' (first | (with_reducible exact Below.refl _ _) | (with_reducible assumption) | (with_reducible refine Below.alloc ?_ ?_ _) | (with_reducible refine Below.drew ?_) | (with_reducible refine below_dn ?_) | (with_reducible refine Below.setCell ?_ ?_ _) | (with_reducible exact Nat.le_refl _) | omega | (simp only [World.size_alloc, World.size_setCell, World.size_drew]; omega) | (simp; omega) | (simp; done))))
      go_upto_region 1 with (fail)
      try rw [hG]
      generalize hw0 : (w.alloc (.cells #[.slice none 0 0, .int .i64 0] 34)) = w0 at Kr B ⊢
      clear hw0 hG
      obtain ⟨brc0, brc1⟩ := twob Kr.out
      go_wp2_with fail
      refine (LA.out _ (HP.out.mono B.out)).mono ?_
      rintro e w1 ⟨rfl, hb⟩
      replace Kr := Lib.hid (Kr.out.below hb Kr.out.lt)
      replace B := Lib.hid (B.out.trans (hb.mono B.out.size))
      clear brc0 brc1
      clear hb
      obtain ⟨brc0, brc1⟩ := twob Kr.out
      clear brc0 brc1
      obtain ⟨brc0, brc1⟩ := twob Kr.out
      have fzr := fun q => Kr.out.frozen q
      go_wp2
      have K9 := Lib.hid (show Blk ((w1.setCell ⟨G, 0, none⟩ (.slice none 0 0)).setCell ⟨G, 1, none⟩ (.int .i64 1)) (G) 34 #[.slice none 0 0, .int .i64 1] from ((Kr.out.set_ 0 (.slice none 0 0)).set_ 1 (.int .i64 1)))
      have B9 := ((B.out.setCell (p := ⟨G, 0, none⟩) (show w.heap.size ≤ G by have := HG.out; omega) (.slice none 0 0)).setCell (p := ⟨G, 1, none⟩) (show w.heap.size ≤ G by have := HG.out; omega) (.int .i64 1))
      generalize hw2 : ((w1.setCell ⟨G, 0, none⟩ (.slice none 0 0)).setCell ⟨G, 1, none⟩ (.int .i64 1)) = w9 at K9 B9 ⊢
      clear brc0 brc1 fzr
      clear hw2
      obtain ⟨d0, d1⟩ := twob K9.out
      refine bodyPost_ret (by simp [results, Tryd.results21, go_sem, d0, d1]; try rfl) rfl ?_
      exact ⟨RowsS.nil 1 _, B9⟩
    · have ta2 : decide (1099511627776 < at_) = false := decide_eq_false (by omega)
      by_cases a3 : ov < 0
      · have ta3 : decide (ov < 0) = true := decide_eq_true (by omega)
        clear hb a1 a2 a3
        clear hp hN ok ka hlen hle hin hl hx k1 k2 k3 k4 k5 k6 k7 k8
        go_enter Tryd.func21, Tryd.ntmps21
        obtain ⟨G, hG⟩ : ∃ G, w.heap.size = G := ⟨_, rfl⟩
        have HG := Lib.hid hG
        have Kr := Lib.hid (show Blk (w.alloc (.cells #[.slice none 0 0, .int .i64 0] 34)) (G) 34 #[.slice none 0 0, .int .i64 0] from Blk.new' _ _ _ _ hG rfl)
        have B := Lib.hid (show Below w.heap.size w (w.alloc (.cells #[.slice none 0 0, .int .i64 0] 34)) by (repeat' (first | (with_reducible exact Below.refl _ _) | (with_reducible assumption) | (with_reducible refine Below.alloc ?_ ?_ _) | (with_reducible refine Below.drew ?_) | (with_reducible refine below_dn ?_) | (with_reducible refine Below.setCell ?_ ?_ _) | (with_reducible exact Nat.le_refl _) | omega | (simp only [World.size_alloc, World.size_setCell, World.size_drew]; omega) | (simp; omega) | (simp; done))))
        go_upto_region 1 with (fail)
        try rw [hG]
        generalize hw0 : (w.alloc (.cells #[.slice none 0 0, .int .i64 0] 34)) = w0 at Kr B ⊢
        clear hw0 hG
        obtain ⟨brc0, brc1⟩ := twob Kr.out
        go_wp2_with fail
        refine (LA.out _ (HP.out.mono B.out)).mono ?_
        rintro e w1 ⟨rfl, hb⟩
        replace Kr := Lib.hid (Kr.out.below hb Kr.out.lt)
        replace B := Lib.hid (B.out.trans (hb.mono B.out.size))
        clear brc0 brc1
        clear hb
        obtain ⟨brc0, brc1⟩ := twob Kr.out
        clear brc0 brc1
        obtain ⟨brc0, brc1⟩ := twob Kr.out
        have fzr := fun q => Kr.out.frozen q
        go_wp2
        have K9 := Lib.hid (show Blk ((w1.setCell ⟨G, 0, none⟩ (.slice none 0 0)).setCell ⟨G, 1, none⟩ (.int .i64 1)) (G) 34 #[.slice none 0 0, .int .i64 1] from ((Kr.out.set_ 0 (.slice none 0 0)).set_ 1 (.int .i64 1)))
        have B9 := ((B.out.setCell (p := ⟨G, 0, none⟩) (show w.heap.size ≤ G by have := HG.out; omega) (.slice none 0 0)).setCell (p := ⟨G, 1, none⟩) (show w.heap.size ≤ G by have := HG.out; omega) (.int .i64 1))
        generalize hw2 : ((w1.setCell ⟨G, 0, none⟩ (.slice none 0 0)).setCell ⟨G, 1, none⟩ (.int .i64 1)) = w9 at K9 B9 ⊢
        clear brc0 brc1 fzr
        clear hw2
        obtain ⟨d0, d1⟩ := twob K9.out
        refine bodyPost_ret (by simp [results, Tryd.results21, go_sem, d0, d1]; try rfl) rfl ?_
        exact ⟨RowsS.nil 1 _, B9⟩
      · have ta3 : decide (ov < 0) = false := decide_eq_false (by omega)
        by_cases a4 : 1099511627776 < ov
        · have ta4 : decide (1099511627776 < ov) = true := decide_eq_true (by omega)
          clear hb a1 a2 a3 a4
          clear hp hN ok ka hlen hle hin hl hx k1 k2 k3 k4 k5 k6 k7 k8
          go_enter Tryd.func21, Tryd.ntmps21
          obtain ⟨G, hG⟩ : ∃ G, w.heap.size = G := ⟨_, rfl⟩
          have HG := Lib.hid hG
          have Kr := Lib.hid (show Blk (w.alloc (.cells #[.slice none 0 0, .int .i64 0] 34)) (G) 34 #[.slice none 0 0, .int .i64 0] from Blk.new' _ _ _ _ hG rfl)
          have B := Lib.hid (show Below w.heap.size w (w.alloc (.cells #[.slice none 0 0, .int .i64 0] 34)) by (repeat' (first | (with_reducible exact Below.refl _ _) | (with_reducible assumption) | (with_reducible refine Below.alloc ?_ ?_ _) | (with_reducible refine Below.drew ?_) | (with_reducible refine below_dn ?_) | (with_reducible refine Below.setCell ?_ ?_ _) | (with_reducible exact Nat.le_refl _) | omega | (simp only [World.size_alloc, World.size_setCell, World.size_drew]; omega) | (simp; omega) | (simp; done))))
          go_upto_region 1 with (fail)
          try rw [hG]
          generalize hw0 : (w.alloc (.cells #[.slice none 0 0, .int .i64 0] 34)) = w0 at Kr B ⊢
          clear hw0 hG
          obtain ⟨brc0, brc1⟩ := twob Kr.out
          go_wp2_with fail
          refine (LA.out _ (HP.out.mono B.out)).mono ?_
          rintro e w1 ⟨rfl, hb⟩
          replace Kr := Lib.hid (Kr.out.below hb Kr.out.lt)
          replace B := Lib.hid (B.out.trans (hb.mono B.out.size))
          clear brc0 brc1
          clear hb
          obtain ⟨brc0, brc1⟩ := twob Kr.out
          clear brc0 brc1
          obtain ⟨brc0, brc1⟩ := twob Kr.out
          have fzr := fun q => Kr.out.frozen q
          go_wp2
          have K9 := Lib.hid (show Blk ((w1.setCell ⟨G, 0, none⟩ (.slice none 0 0)).setCell ⟨G, 1, none⟩ (.int .i64 1)) (G) 34 #[.slice none 0 0, .int .i64 1] from ((Kr.out.set_ 0 (.slice none 0 0)).set_ 1 (.int .i64 1)))
          have B9 := ((B.out.setCell (p := ⟨G, 0, none⟩) (show w.heap.size ≤ G by have := HG.out; omega) (.slice none 0 0)).setCell (p := ⟨G, 1, none⟩) (show w.heap.size ≤ G by have := HG.out; omega) (.int .i64 1))
          generalize hw2 : ((w1.setCell ⟨G, 0, none⟩ (.slice none 0 0)).setCell ⟨G, 1, none⟩ (.int .i64 1)) = w9 at K9 B9 ⊢
          clear brc0 brc1 fzr
          clear hw2
          obtain ⟨d0, d1⟩ := twob K9.out
          refine bodyPost_ret (by simp [results, Tryd.results21, go_sem, d0, d1]; try rfl) rfl ?_
          exact ⟨RowsS.nil 1 _, B9⟩
        · have ta4 : decide (1099511627776 < ov) = false := decide_eq_false (by omega)
          have v1 : keyB (p, S, s, at_, 1099511627776) = false := decide_eq_false (by
            rcases hb with h | h | h | h | h
            · exact absurd h a1
            · exact absurd h a2
            · exact absurd h a3
            · exact absurd h a4
            · exact h)
          rw [v1] at VA
          clear hb a1 a2 a3 a4 v1
          clear hp hN ok ka hlen hle hin hl hx k1 k2 k3 k4 k5 k6 k7 k8
          go_enter Tryd.func21, Tryd.ntmps21
          obtain ⟨G, hG⟩ : ∃ G, w.heap.size = G := ⟨_, rfl⟩
          have HG := Lib.hid hG
          have Kr := Lib.hid (show Blk (w.alloc (.cells #[.slice none 0 0, .int .i64 0] 34)) (G) 34 #[.slice none 0 0, .int .i64 0] from Blk.new' _ _ _ _ hG rfl)
          have B := Lib.hid (show Below w.heap.size w (w.alloc (.cells #[.slice none 0 0, .int .i64 0] 34)) by (repeat' (first | (with_reducible exact Below.refl _ _) | (with_reducible assumption) | (with_reducible refine Below.alloc ?_ ?_ _) | (with_reducible refine Below.drew ?_) | (with_reducible refine below_dn ?_) | (with_reducible refine Below.setCell ?_ ?_ _) | (with_reducible exact Nat.le_refl _) | omega | (simp only [World.size_alloc, World.size_setCell, World.size_drew]; omega) | (simp; omega) | (simp; done))))
          go_upto_region 1 with (fail)
          try rw [hG]
          generalize hw0 : (w.alloc (.cells #[.slice none 0 0, .int .i64 0] 34)) = w0 at Kr B ⊢
          clear hw0 hG
          obtain ⟨brc0, brc1⟩ := twob Kr.out
          go_wp2_with fail
          refine (LA.out _ (HP.out.mono B.out)).mono ?_
          rintro e w1 ⟨rfl, hb⟩
          replace Kr := Lib.hid (Kr.out.below hb Kr.out.lt)
          replace B := Lib.hid (B.out.trans (hb.mono B.out.size))
          clear brc0 brc1
          clear hb
          obtain ⟨brc0, brc1⟩ := twob Kr.out
          obtain ⟨b, off, rfl, q0, q1, q2, q3, q4⟩ := RwA.at_ (HP.out.mono B.out) (k := i) (by rw [HE.out]; exact hlt)
          rw [HX.out] at q0 q1 q2 q3 q4
          simp only at q0 q1 q2 q3 q4
          obtain ⟨gk, hgk⟩ : ∃ G, w1.heap.size = G := ⟨_, rfl⟩
          have Kk := Lib.hid (show Blk (w1.alloc (.cells #[.int .i64 p, .int .i64 S, .string s, .int .i64 at_, .int .i64 1099511627776] 24)) gk 24 #[.int .i64 p, .int .i64 S, .string s, .int .i64 at_, .int .i64 1099511627776] from Blk.new' w1 _ _ _ hgk rfl)
          have Nrk := Lib.hid (show G < gk from by rw [← hgk]; exact Kr.out.lt)
          replace Kr := Lib.hid (Kr.out.alloc (.cells #[.int .i64 p, .int .i64 S, .string s, .int .i64 at_, .int .i64 1099511627776] 24))
          have Lk := Lib.hid (show w.heap.size ≤ gk from by rw [← hgk]; exact B.out.size)
          replace B := Lib.hid (B.out.alloc B.out.size (.cells #[.int .i64 p, .int .i64 S, .string s, .int .i64 at_, .int .i64 1099511627776] 24))
          go_upto_region 7 with (fail)
          try rw [hgk]
          generalize hw : w1.alloc (.cells #[.int .i64 p, .int .i64 S, .string s, .int .i64 at_, .int .i64 1099511627776] 24) = w2 at Kr Kk  B ⊢
          clear brc0 brc1
          clear hw hgk
          clear q0 q1 q2 q3 q4
          obtain ⟨brc0, brc1⟩ := twob Kr.out
          obtain ⟨bkc0, bkc1, bkc2, bkc3, bkc4⟩ := five Kk.out
          go_wp2_with fail
          refine (VA.out _).mono ?_
          rintro e w3 ⟨rfl, hb⟩
          replace Kr := Lib.hid (Kr.out.below hb Kr.out.lt)
          replace Kk := Lib.hid (Kk.out.below hb Kk.out.lt)
          replace B := Lib.hid (B.out.trans (hb.mono B.out.size))
          clear brc0 brc1 bkc0 bkc1 bkc2 bkc3 bkc4
          clear hb
          obtain ⟨brc0, brc1⟩ := twob Kr.out
          obtain ⟨bkc0, bkc1, bkc2, bkc3, bkc4⟩ := five Kk.out
          clear brc0 brc1 bkc0 bkc1 bkc2 bkc3 bkc4
          obtain ⟨brc0, brc1⟩ := twob Kr.out
          obtain ⟨bkc0, bkc1, bkc2, bkc3, bkc4⟩ := five Kk.out
          have fzr := fun q => Kr.out.frozen q
          go_wp2
          have K9 := Lib.hid (show Blk ((w3.setCell ⟨G, 0, none⟩ (.slice none 0 0)).setCell ⟨G, 1, none⟩ (.int .i64 1)) (G) 34 #[.slice none 0 0, .int .i64 1] from ((Kr.out.set_ 0 (.slice none 0 0)).set_ 1 (.int .i64 1)))
          have B9 := ((B.out.setCell (p := ⟨G, 0, none⟩) (show w.heap.size ≤ G by have := HG.out; omega) (.slice none 0 0)).setCell (p := ⟨G, 1, none⟩) (show w.heap.size ≤ G by have := HG.out; omega) (.int .i64 1))
          generalize hw2 : ((w3.setCell ⟨G, 0, none⟩ (.slice none 0 0)).setCell ⟨G, 1, none⟩ (.int .i64 1)) = w9 at K9 B9 ⊢
          clear brc0 brc1 bkc0 bkc1 bkc2 bkc3 bkc4 fzr
          clear hw2
          obtain ⟨d0, d1⟩ := twob K9.out
          refine bodyPost_ret (by simp [results, Tryd.results21, go_sem, d0, d1]; try rfl) rfl ?_
          exact ⟨RowsS.nil 1 _, B9⟩
set_option maxRecDepth 100000 in
set_option maxHeartbeats 2000000 in
theorem rrot_time (a : Option Addr) (c : Nat) (l : List Rw) (p : Int) (s : ByteArray) (at_ ov : Int) (w : World) (hp : RwA w a l) (ok : RingOk l) (F T : Nat) (ka : KeysAt l p F T) (h : F < T) (hb : ¬ argBad (p, (l.getD (lastL l p).toNat r0).2.1 + 1, s, at_, 1099511627776) at_ ov) (HT : at_ + ov ≤ (l.getD (lastL l p).toNat r0).2.2.2.1 ∨ (l.getD (lastL l p).toNat r0).2.2.2.2 < at_) :
    Calls Tryd.prog 21 #[.slice a l.length c, .int .i64 p, .string s, .int .i64 at_, .int .i64 ov] w fun e w' => RowsS (rotL l p s at_ ov) w' e ∧ Below w.heap.size w w' := by
  have HP := Lib.hid hp
  have hm := ok.few
  obtain ⟨N, hN⟩ : ∃ N, l.length = N := ⟨_, rfl⟩
  have HE := Lib.hid hN
  have LA := Lib.hid (fun (X : World) (h : RwA X a l) => last_any a c l p X h (by omega))
  have hlen := ka.len
  have hle := ka.le
  obtain ⟨i, rfl⟩ : ∃ i, T = i + 1 := ⟨T - 1, by omega⟩
  have hl : lastL l p = (i : Int) := by rw [last_some ka h]; omega
  have hn : ¬ lastL l p < 0 := by rw [hl]; omega
  have ht : (lastL l p).toNat = i := by rw [hl]; rfl
  unfold rotL
  rw [if_neg hn, ht]
  rw [ht] at hb HT
  clear hn ht
  have hin : (l.getD i r0).1 = p := ka.inn i (by omega) (by omega)
  have hlt : i < l.length := by omega
  have ko := ok.keys i hlt
  have RP := Lib.hid (rot_pos ok.ord ka (by omega))
  obtain ⟨x, hx⟩ : ∃ y, l.getD i r0 = y := ⟨_, rfl⟩
  have HX := Lib.hid hx
  rw [hx] at hin ko RP hb HT ⊢
  obtain ⟨o1, o2, o3, o4, o5⟩ := x
  unfold keyOk at ko
  simp only at hin ko RP hb HT ⊢
  obtain ⟨⟨k1, k2⟩, ⟨k3, k4⟩, k5, k6, k7, k8⟩ := ko
  have wS : IntKind.i64.wrap (o2 + 1) = o2 + 1 := by rw [IntKind.wrap_i64]; omega
  obtain ⟨S, hS⟩ : ∃ z, o2 + 1 = z := ⟨_, rfl⟩
  rw [hS] at wS RP hb ⊢
  have wS2 : IntKind.i64.wrap S = S := wS
  have VA := Lib.hid (fun W : World => rvalid_any (p, S, s, at_, 1099511627776) W)
  simp only [encR] at VA
  rw [hN] at hlen hlt hm
  have i0 : (0 : Int) ≤ (i : Int) := by omega
  have iN : (i : Int) < (N : Int) := by omega
  simp only [hN, hl] at LA
  have t0 : decide ((i : Int) < 0) = false := decide_eq_false (by omega)
  rw [if_neg hb]
  unfold argBad at hb
  rw [hN]
  have a1 : ¬ at_ < 0 := fun q => hb (Or.inl q)
  have a2 : ¬ 1099511627776 < at_ := fun q => hb (Or.inr (Or.inl q))
  have a3 : ¬ ov < 0 := fun q => hb (Or.inr (Or.inr (Or.inl q)))
  have a4 : ¬ 1099511627776 < ov := fun q => hb (Or.inr (Or.inr (Or.inr (Or.inl q))))
  have v1 : keyB (p, S, s, at_, 1099511627776) = true := decide_eq_true (Decidable.of_not_not fun q => hb (Or.inr (Or.inr (Or.inr (Or.inr q)))))
  rw [v1] at VA
  have ta1 : decide (at_ < 0) = false := decide_eq_false (by omega)
  have ta2 : decide (1099511627776 < at_) = false := decide_eq_false (by omega)
  have ta3 : decide (ov < 0) = false := decide_eq_false (by omega)
  have ta4 : decide (1099511627776 < ov) = false := decide_eq_false (by omega)
  have wE : IntKind.i64.wrap (at_ + ov) = at_ + ov := by rw [IntKind.wrap_i64]; omega
  obtain ⟨E, hE⟩ : ∃ z, at_ + ov = z := ⟨_, rfl⟩
  rw [hE] at wE HT ⊢
  have wE2 : IntKind.i64.wrap E = E := wE
  rw [if_pos HT]
  by_cases e1 : E ≤ o4
  · have te1 : decide (E ≤ o4) = true := decide_eq_true (by omega)
    clear hb HT a1 a2 a3 a4 v1 e1
    clear hp hN ok ka hlen hle hin hl hx k1 k2 k3 k4 k5 k6 k7 k8
    go_enter Tryd.func21, Tryd.ntmps21
    obtain ⟨G, hG⟩ : ∃ G, w.heap.size = G := ⟨_, rfl⟩
    have HG := Lib.hid hG
    have Kr := Lib.hid (show Blk (w.alloc (.cells #[.slice none 0 0, .int .i64 0] 34)) (G) 34 #[.slice none 0 0, .int .i64 0] from Blk.new' _ _ _ _ hG rfl)
    have B := Lib.hid (show Below w.heap.size w (w.alloc (.cells #[.slice none 0 0, .int .i64 0] 34)) by (repeat' (first | (with_reducible exact Below.refl _ _) | (with_reducible assumption) | (with_reducible refine Below.alloc ?_ ?_ _) | (with_reducible refine Below.drew ?_) | (with_reducible refine below_dn ?_) | (with_reducible refine Below.setCell ?_ ?_ _) | (with_reducible exact Nat.le_refl _) | omega | (simp only [World.size_alloc, World.size_setCell, World.size_drew]; omega) | (simp; omega) | (simp; done))))
    go_upto_region 1 with (fail)
    try rw [hG]
    generalize hw0 : (w.alloc (.cells #[.slice none 0 0, .int .i64 0] 34)) = w0 at Kr B ⊢
    clear hw0 hG
    obtain ⟨brc0, brc1⟩ := twob Kr.out
    go_wp2_with fail
    refine (LA.out _ (HP.out.mono B.out)).mono ?_
    rintro e w1 ⟨rfl, hb⟩
    replace Kr := Lib.hid (Kr.out.below hb Kr.out.lt)
    replace B := Lib.hid (B.out.trans (hb.mono B.out.size))
    clear brc0 brc1
    clear hb
    obtain ⟨brc0, brc1⟩ := twob Kr.out
    obtain ⟨b, off, rfl, q0, q1, q2, q3, q4⟩ := RwA.at_ (HP.out.mono B.out) (k := i) (by rw [HE.out]; exact hlt)
    rw [HX.out] at q0 q1 q2 q3 q4
    simp only at q0 q1 q2 q3 q4
    obtain ⟨gk, hgk⟩ : ∃ G, w1.heap.size = G := ⟨_, rfl⟩
    have Kk := Lib.hid (show Blk (w1.alloc (.cells #[.int .i64 p, .int .i64 S, .string s, .int .i64 at_, .int .i64 1099511627776] 24)) gk 24 #[.int .i64 p, .int .i64 S, .string s, .int .i64 at_, .int .i64 1099511627776] from Blk.new' w1 _ _ _ hgk rfl)
    have Nrk := Lib.hid (show G < gk from by rw [← hgk]; exact Kr.out.lt)
    replace Kr := Lib.hid (Kr.out.alloc (.cells #[.int .i64 p, .int .i64 S, .string s, .int .i64 at_, .int .i64 1099511627776] 24))
    have Lk := Lib.hid (show w.heap.size ≤ gk from by rw [← hgk]; exact B.out.size)
    replace B := Lib.hid (B.out.alloc B.out.size (.cells #[.int .i64 p, .int .i64 S, .string s, .int .i64 at_, .int .i64 1099511627776] 24))
    go_upto_region 7 with (fail)
    try rw [hgk]
    generalize hw : w1.alloc (.cells #[.int .i64 p, .int .i64 S, .string s, .int .i64 at_, .int .i64 1099511627776] 24) = w2 at Kr Kk  B ⊢
    clear brc0 brc1
    clear hw hgk
    clear q0 q1 q2 q3 q4
    obtain ⟨brc0, brc1⟩ := twob Kr.out
    obtain ⟨bkc0, bkc1, bkc2, bkc3, bkc4⟩ := five Kk.out
    go_wp2_with fail
    refine (VA.out _).mono ?_
    rintro e w3 ⟨rfl, hb⟩
    replace Kr := Lib.hid (Kr.out.below hb Kr.out.lt)
    replace Kk := Lib.hid (Kk.out.below hb Kk.out.lt)
    replace B := Lib.hid (B.out.trans (hb.mono B.out.size))
    clear brc0 brc1 bkc0 bkc1 bkc2 bkc3 bkc4
    clear hb
    obtain ⟨brc0, brc1⟩ := twob Kr.out
    obtain ⟨bkc0, bkc1, bkc2, bkc3, bkc4⟩ := five Kk.out
    obtain ⟨q0, q1, q2, q3, q4⟩ := RwA.cells_ (HP.out.mono B.out) (k := i) (by rw [HE.out]; exact hlt) rfl
    rw [HX.out] at q0 q1 q2 q3 q4
    simp only at q0 q1 q2 q3 q4
    clear brc0 brc1 bkc0 bkc1 bkc2 bkc3 bkc4
    obtain ⟨brc0, brc1⟩ := twob Kr.out
    obtain ⟨bkc0, bkc1, bkc2, bkc3, bkc4⟩ := five Kk.out
    have fzr := fun q => Kr.out.frozen q
    go_wp2
    have K9 := Lib.hid (show Blk ((w3.setCell ⟨G, 0, none⟩ (.slice none 0 0)).setCell ⟨G, 1, none⟩ (.int .i64 9)) (G) 34 #[.slice none 0 0, .int .i64 9] from ((Kr.out.set_ 0 (.slice none 0 0)).set_ 1 (.int .i64 9)))
    have B9 := ((B.out.setCell (p := ⟨G, 0, none⟩) (show w.heap.size ≤ G by have := HG.out; omega) (.slice none 0 0)).setCell (p := ⟨G, 1, none⟩) (show w.heap.size ≤ G by have := HG.out; omega) (.int .i64 9))
    generalize hw2 : ((w3.setCell ⟨G, 0, none⟩ (.slice none 0 0)).setCell ⟨G, 1, none⟩ (.int .i64 9)) = w9 at K9 B9 ⊢
    clear brc0 brc1 bkc0 bkc1 bkc2 bkc3 bkc4 fzr
    clear hw2
    obtain ⟨d0, d1⟩ := twob K9.out
    refine bodyPost_ret (by simp [results, Tryd.results21, go_sem, d0, d1]; try rfl) rfl ?_
    exact ⟨RowsS.nil 9 _, B9⟩
  · have te1 : decide (E ≤ o4) = false := decide_eq_false (by omega)
    have te2 : decide (o5 < at_) = true := decide_eq_true (by omega)
    clear hb HT a1 a2 a3 a4 v1 e1
    clear hp hN ok ka hlen hle hin hl hx k1 k2 k3 k4 k5 k6 k7 k8
    go_enter Tryd.func21, Tryd.ntmps21
    obtain ⟨G, hG⟩ : ∃ G, w.heap.size = G := ⟨_, rfl⟩
    have HG := Lib.hid hG
    have Kr := Lib.hid (show Blk (w.alloc (.cells #[.slice none 0 0, .int .i64 0] 34)) (G) 34 #[.slice none 0 0, .int .i64 0] from Blk.new' _ _ _ _ hG rfl)
    have B := Lib.hid (show Below w.heap.size w (w.alloc (.cells #[.slice none 0 0, .int .i64 0] 34)) by (repeat' (first | (with_reducible exact Below.refl _ _) | (with_reducible assumption) | (with_reducible refine Below.alloc ?_ ?_ _) | (with_reducible refine Below.drew ?_) | (with_reducible refine below_dn ?_) | (with_reducible refine Below.setCell ?_ ?_ _) | (with_reducible exact Nat.le_refl _) | omega | (simp only [World.size_alloc, World.size_setCell, World.size_drew]; omega) | (simp; omega) | (simp; done))))
    go_upto_region 1 with (fail)
    try rw [hG]
    generalize hw0 : (w.alloc (.cells #[.slice none 0 0, .int .i64 0] 34)) = w0 at Kr B ⊢
    clear hw0 hG
    obtain ⟨brc0, brc1⟩ := twob Kr.out
    go_wp2_with fail
    refine (LA.out _ (HP.out.mono B.out)).mono ?_
    rintro e w1 ⟨rfl, hb⟩
    replace Kr := Lib.hid (Kr.out.below hb Kr.out.lt)
    replace B := Lib.hid (B.out.trans (hb.mono B.out.size))
    clear brc0 brc1
    clear hb
    obtain ⟨brc0, brc1⟩ := twob Kr.out
    obtain ⟨b, off, rfl, q0, q1, q2, q3, q4⟩ := RwA.at_ (HP.out.mono B.out) (k := i) (by rw [HE.out]; exact hlt)
    rw [HX.out] at q0 q1 q2 q3 q4
    simp only at q0 q1 q2 q3 q4
    obtain ⟨gk, hgk⟩ : ∃ G, w1.heap.size = G := ⟨_, rfl⟩
    have Kk := Lib.hid (show Blk (w1.alloc (.cells #[.int .i64 p, .int .i64 S, .string s, .int .i64 at_, .int .i64 1099511627776] 24)) gk 24 #[.int .i64 p, .int .i64 S, .string s, .int .i64 at_, .int .i64 1099511627776] from Blk.new' w1 _ _ _ hgk rfl)
    have Nrk := Lib.hid (show G < gk from by rw [← hgk]; exact Kr.out.lt)
    replace Kr := Lib.hid (Kr.out.alloc (.cells #[.int .i64 p, .int .i64 S, .string s, .int .i64 at_, .int .i64 1099511627776] 24))
    have Lk := Lib.hid (show w.heap.size ≤ gk from by rw [← hgk]; exact B.out.size)
    replace B := Lib.hid (B.out.alloc B.out.size (.cells #[.int .i64 p, .int .i64 S, .string s, .int .i64 at_, .int .i64 1099511627776] 24))
    go_upto_region 7 with (fail)
    try rw [hgk]
    generalize hw : w1.alloc (.cells #[.int .i64 p, .int .i64 S, .string s, .int .i64 at_, .int .i64 1099511627776] 24) = w2 at Kr Kk  B ⊢
    clear brc0 brc1
    clear hw hgk
    clear q0 q1 q2 q3 q4
    obtain ⟨brc0, brc1⟩ := twob Kr.out
    obtain ⟨bkc0, bkc1, bkc2, bkc3, bkc4⟩ := five Kk.out
    go_wp2_with fail
    refine (VA.out _).mono ?_
    rintro e w3 ⟨rfl, hb⟩
    replace Kr := Lib.hid (Kr.out.below hb Kr.out.lt)
    replace Kk := Lib.hid (Kk.out.below hb Kk.out.lt)
    replace B := Lib.hid (B.out.trans (hb.mono B.out.size))
    clear brc0 brc1 bkc0 bkc1 bkc2 bkc3 bkc4
    clear hb
    obtain ⟨brc0, brc1⟩ := twob Kr.out
    obtain ⟨bkc0, bkc1, bkc2, bkc3, bkc4⟩ := five Kk.out
    obtain ⟨q0, q1, q2, q3, q4⟩ := RwA.cells_ (HP.out.mono B.out) (k := i) (by rw [HE.out]; exact hlt) rfl
    rw [HX.out] at q0 q1 q2 q3 q4
    simp only at q0 q1 q2 q3 q4
    clear brc0 brc1 bkc0 bkc1 bkc2 bkc3 bkc4
    obtain ⟨brc0, brc1⟩ := twob Kr.out
    obtain ⟨bkc0, bkc1, bkc2, bkc3, bkc4⟩ := five Kk.out
    have fzr := fun q => Kr.out.frozen q
    go_wp2
    have K9 := Lib.hid (show Blk ((w3.setCell ⟨G, 0, none⟩ (.slice none 0 0)).setCell ⟨G, 1, none⟩ (.int .i64 9)) (G) 34 #[.slice none 0 0, .int .i64 9] from ((Kr.out.set_ 0 (.slice none 0 0)).set_ 1 (.int .i64 9)))
    have B9 := ((B.out.setCell (p := ⟨G, 0, none⟩) (show w.heap.size ≤ G by have := HG.out; omega) (.slice none 0 0)).setCell (p := ⟨G, 1, none⟩) (show w.heap.size ≤ G by have := HG.out; omega) (.int .i64 9))
    generalize hw2 : ((w3.setCell ⟨G, 0, none⟩ (.slice none 0 0)).setCell ⟨G, 1, none⟩ (.int .i64 9)) = w9 at K9 B9 ⊢
    clear brc0 brc1 bkc0 bkc1 bkc2 bkc3 bkc4 fzr
    clear hw2
    obtain ⟨d0, d1⟩ := twob K9.out
    refine bodyPost_ret (by simp [results, Tryd.results21, go_sem, d0, d1]; try rfl) rfl ?_
    exact ⟨RowsS.nil 9 _, B9⟩
set_option maxRecDepth 100000 in
set_option maxHeartbeats 2000000 in
theorem rrot_limit (a : Option Addr) (c : Nat) (l : List Rw) (p : Int) (s : ByteArray) (at_ ov : Int) (w : World) (hp : RwA w a l) (ok : RingOk l) (F T : Nat) (ka : KeysAt l p F T) (h : F < T) (hb : ¬ argBad (p, (l.getD (lastL l p).toNat r0).2.1 + 1, s, at_, 1099511627776) at_ ov) (HT : ¬ (at_ + ov ≤ (l.getD (lastL l p).toNat r0).2.2.2.1 ∨ (l.getD (lastL l p).toNat r0).2.2.2.2 < at_)) (hlim : 1000 ≤ l.length) :
    Calls Tryd.prog 21 #[.slice a l.length c, .int .i64 p, .string s, .int .i64 at_, .int .i64 ov] w fun e w' => RowsS (rotL l p s at_ ov) w' e ∧ Below w.heap.size w w' := by
  have HP := Lib.hid hp
  have hm := ok.few
  obtain ⟨N, hN⟩ : ∃ N, l.length = N := ⟨_, rfl⟩
  have HE := Lib.hid hN
  have LA := Lib.hid (fun (X : World) (h : RwA X a l) => last_any a c l p X h (by omega))
  have hlen := ka.len
  have hle := ka.le
  obtain ⟨i, rfl⟩ : ∃ i, T = i + 1 := ⟨T - 1, by omega⟩
  have hl : lastL l p = (i : Int) := by rw [last_some ka h]; omega
  have hn : ¬ lastL l p < 0 := by rw [hl]; omega
  have ht : (lastL l p).toNat = i := by rw [hl]; rfl
  unfold rotL
  rw [if_neg hn, ht]
  rw [ht] at hb HT
  clear hn ht
  have hin : (l.getD i r0).1 = p := ka.inn i (by omega) (by omega)
  have hlt : i < l.length := by omega
  have ko := ok.keys i hlt
  have RP := Lib.hid (rot_pos ok.ord ka (by omega))
  obtain ⟨x, hx⟩ : ∃ y, l.getD i r0 = y := ⟨_, rfl⟩
  have HX := Lib.hid hx
  rw [hx] at hin ko RP hb HT ⊢
  obtain ⟨o1, o2, o3, o4, o5⟩ := x
  unfold keyOk at ko
  simp only at hin ko RP hb HT ⊢
  obtain ⟨⟨k1, k2⟩, ⟨k3, k4⟩, k5, k6, k7, k8⟩ := ko
  have wS : IntKind.i64.wrap (o2 + 1) = o2 + 1 := by rw [IntKind.wrap_i64]; omega
  obtain ⟨S, hS⟩ : ∃ z, o2 + 1 = z := ⟨_, rfl⟩
  rw [hS] at wS RP hb ⊢
  have wS2 : IntKind.i64.wrap S = S := wS
  have VA := Lib.hid (fun W : World => rvalid_any (p, S, s, at_, 1099511627776) W)
  simp only [encR] at VA
  rw [hN] at hlen hlt hm
  have i0 : (0 : Int) ≤ (i : Int) := by omega
  have iN : (i : Int) < (N : Int) := by omega
  simp only [hN, hl] at LA
  have t0 : decide ((i : Int) < 0) = false := decide_eq_false (by omega)
  rw [if_neg hb]
  unfold argBad at hb
  rw [hN]
  have a1 : ¬ at_ < 0 := fun q => hb (Or.inl q)
  have a2 : ¬ 1099511627776 < at_ := fun q => hb (Or.inr (Or.inl q))
  have a3 : ¬ ov < 0 := fun q => hb (Or.inr (Or.inr (Or.inl q)))
  have a4 : ¬ 1099511627776 < ov := fun q => hb (Or.inr (Or.inr (Or.inr (Or.inl q))))
  have v1 : keyB (p, S, s, at_, 1099511627776) = true := decide_eq_true (Decidable.of_not_not fun q => hb (Or.inr (Or.inr (Or.inr (Or.inr q)))))
  rw [v1] at VA
  have ta1 : decide (at_ < 0) = false := decide_eq_false (by omega)
  have ta2 : decide (1099511627776 < at_) = false := decide_eq_false (by omega)
  have ta3 : decide (ov < 0) = false := decide_eq_false (by omega)
  have ta4 : decide (1099511627776 < ov) = false := decide_eq_false (by omega)
  have wE : IntKind.i64.wrap (at_ + ov) = at_ + ov := by rw [IntKind.wrap_i64]; omega
  obtain ⟨E, hE⟩ : ∃ z, at_ + ov = z := ⟨_, rfl⟩
  rw [hE] at wE HT ⊢
  have wE2 : IntKind.i64.wrap E = E := wE
  rw [if_neg HT]
  have e1 : ¬ E ≤ o4 := fun q => HT (Or.inl q)
  have e2 : ¬ o5 < at_ := fun q => HT (Or.inr q)
  have te1 : decide (E ≤ o4) = false := decide_eq_false (by omega)
  have te2 : decide (o5 < at_) = false := decide_eq_false (by omega)
  rw [hN] at hlim
  rw [if_pos hlim]
  have tl : decide ((1000 : Int) ≤ (N : Int)) = true := decide_eq_true (by omega)
  clear hb HT a1 a2 a3 a4 v1 e1 e2 hlim
  clear hp hN ok ka hlen hle hin hl hx k1 k2 k3 k4 k5 k6 k7 k8
  go_enter Tryd.func21, Tryd.ntmps21
  obtain ⟨G, hG⟩ : ∃ G, w.heap.size = G := ⟨_, rfl⟩
  have HG := Lib.hid hG
  have Kr := Lib.hid (show Blk (w.alloc (.cells #[.slice none 0 0, .int .i64 0] 34)) (G) 34 #[.slice none 0 0, .int .i64 0] from Blk.new' _ _ _ _ hG rfl)
  have B := Lib.hid (show Below w.heap.size w (w.alloc (.cells #[.slice none 0 0, .int .i64 0] 34)) by (repeat' (first | (with_reducible exact Below.refl _ _) | (with_reducible assumption) | (with_reducible refine Below.alloc ?_ ?_ _) | (with_reducible refine Below.drew ?_) | (with_reducible refine below_dn ?_) | (with_reducible refine Below.setCell ?_ ?_ _) | (with_reducible exact Nat.le_refl _) | omega | (simp only [World.size_alloc, World.size_setCell, World.size_drew]; omega) | (simp; omega) | (simp; done))))
  go_upto_region 1 with (fail)
  try rw [hG]
  generalize hw0 : (w.alloc (.cells #[.slice none 0 0, .int .i64 0] 34)) = w0 at Kr B ⊢
  clear hw0 hG
  obtain ⟨brc0, brc1⟩ := twob Kr.out
  go_wp2_with fail
  refine (LA.out _ (HP.out.mono B.out)).mono ?_
  rintro e w1 ⟨rfl, hb⟩
  replace Kr := Lib.hid (Kr.out.below hb Kr.out.lt)
  replace B := Lib.hid (B.out.trans (hb.mono B.out.size))
  clear brc0 brc1
  clear hb
  obtain ⟨brc0, brc1⟩ := twob Kr.out
  obtain ⟨b, off, rfl, q0, q1, q2, q3, q4⟩ := RwA.at_ (HP.out.mono B.out) (k := i) (by rw [HE.out]; exact hlt)
  rw [HX.out] at q0 q1 q2 q3 q4
  simp only at q0 q1 q2 q3 q4
  obtain ⟨gk, hgk⟩ : ∃ G, w1.heap.size = G := ⟨_, rfl⟩
  have Kk := Lib.hid (show Blk (w1.alloc (.cells #[.int .i64 p, .int .i64 S, .string s, .int .i64 at_, .int .i64 1099511627776] 24)) gk 24 #[.int .i64 p, .int .i64 S, .string s, .int .i64 at_, .int .i64 1099511627776] from Blk.new' w1 _ _ _ hgk rfl)
  have Nrk := Lib.hid (show G < gk from by rw [← hgk]; exact Kr.out.lt)
  replace Kr := Lib.hid (Kr.out.alloc (.cells #[.int .i64 p, .int .i64 S, .string s, .int .i64 at_, .int .i64 1099511627776] 24))
  have Lk := Lib.hid (show w.heap.size ≤ gk from by rw [← hgk]; exact B.out.size)
  replace B := Lib.hid (B.out.alloc B.out.size (.cells #[.int .i64 p, .int .i64 S, .string s, .int .i64 at_, .int .i64 1099511627776] 24))
  go_upto_region 7 with (fail)
  try rw [hgk]
  generalize hw : w1.alloc (.cells #[.int .i64 p, .int .i64 S, .string s, .int .i64 at_, .int .i64 1099511627776] 24) = w2 at Kr Kk  B ⊢
  clear brc0 brc1
  clear hw hgk
  clear q0 q1 q2 q3 q4
  obtain ⟨brc0, brc1⟩ := twob Kr.out
  obtain ⟨bkc0, bkc1, bkc2, bkc3, bkc4⟩ := five Kk.out
  go_wp2_with fail
  refine (VA.out _).mono ?_
  rintro e w3 ⟨rfl, hb⟩
  replace Kr := Lib.hid (Kr.out.below hb Kr.out.lt)
  replace Kk := Lib.hid (Kk.out.below hb Kk.out.lt)
  replace B := Lib.hid (B.out.trans (hb.mono B.out.size))
  clear brc0 brc1 bkc0 bkc1 bkc2 bkc3 bkc4
  clear hb
  obtain ⟨brc0, brc1⟩ := twob Kr.out
  obtain ⟨bkc0, bkc1, bkc2, bkc3, bkc4⟩ := five Kk.out
  obtain ⟨q0, q1, q2, q3, q4⟩ := RwA.cells_ (HP.out.mono B.out) (k := i) (by rw [HE.out]; exact hlt) rfl
  rw [HX.out] at q0 q1 q2 q3 q4
  simp only at q0 q1 q2 q3 q4
  clear brc0 brc1 bkc0 bkc1 bkc2 bkc3 bkc4
  obtain ⟨brc0, brc1⟩ := twob Kr.out
  obtain ⟨bkc0, bkc1, bkc2, bkc3, bkc4⟩ := five Kk.out
  have fzr := fun q => Kr.out.frozen q
  go_wp2
  have K9 := Lib.hid (show Blk ((w3.setCell ⟨G, 0, none⟩ (.slice none 0 0)).setCell ⟨G, 1, none⟩ (.int .i64 2)) (G) 34 #[.slice none 0 0, .int .i64 2] from ((Kr.out.set_ 0 (.slice none 0 0)).set_ 1 (.int .i64 2)))
  have B9 := ((B.out.setCell (p := ⟨G, 0, none⟩) (show w.heap.size ≤ G by have := HG.out; omega) (.slice none 0 0)).setCell (p := ⟨G, 1, none⟩) (show w.heap.size ≤ G by have := HG.out; omega) (.int .i64 2))
  generalize hw2 : ((w3.setCell ⟨G, 0, none⟩ (.slice none 0 0)).setCell ⟨G, 1, none⟩ (.int .i64 2)) = w9 at K9 B9 ⊢
  clear brc0 brc1 bkc0 bkc1 bkc2 bkc3 bkc4 fzr
  clear hw2
  obtain ⟨d0, d1⟩ := twob K9.out
  refine bodyPost_ret (by simp [results, Tryd.results21, go_sem, d0, d1]; try rfl) rfl ?_
  exact ⟨RowsS.nil 2 _, B9⟩
end
section
open Go.RowKit Go.Sort
set_option maxRecDepth 100000 in
set_option maxHeartbeats 8000000 in
theorem rrot_ok (a : Option Addr) (c : Nat) (l : List Rw) (p : Int) (s : ByteArray) (at_ ov : Int) (w : World) (hp : RwA w a l) (ok : RingOk l) (F T : Nat) (ka : KeysAt l p F T) (h : F < T) (hb : ¬ argBad (p, (l.getD (lastL l p).toNat r0).2.1 + 1, s, at_, 1099511627776) at_ ov) (HT : ¬ (at_ + ov ≤ (l.getD (lastL l p).toNat r0).2.2.2.1 ∨ (l.getD (lastL l p).toNat r0).2.2.2.2 < at_)) (hlim : ¬ 1000 ≤ l.length) :
    Calls Tryd.prog 21 #[.slice a l.length c, .int .i64 p, .string s, .int .i64 at_, .int .i64 ov] w fun e w' => RowsS (rotL l p s at_ ov) w' e ∧ Below w.heap.size w w' := by
  have HP := Lib.hid hp
  have hm := ok.few
  obtain ⟨N, hN⟩ : ∃ N, l.length = N := ⟨_, rfl⟩
  have HE := Lib.hid hN
  have LA := Lib.hid (fun (X : World) (h : RwA X a l) => last_any a c l p X h (by omega))
  have hlen := ka.len
  have hle := ka.le
  obtain ⟨i, rfl⟩ : ∃ i, T = i + 1 := ⟨T - 1, by omega⟩
  have hl : lastL l p = (i : Int) := by rw [last_some ka h]; omega
  have hn : ¬ lastL l p < 0 := by rw [hl]; omega
  have ht : (lastL l p).toNat = i := by rw [hl]; rfl
  have NH := Lib.hid (fun (U : Int) => by
    have h1 := ka.inn i (by omega) (by omega)
    have := rot_pos (set_ord (x := ((l.getD i r0).1, (l.getD i r0).2.1, (l.getD i r0).2.2.1, (l.getD i r0).2.2.2.1, U)) (i := i) ok.ord rfl rfl) (keys_set (x := ((l.getD i r0).1, (l.getD i r0).2.1, (l.getD i r0).2.2.1, (l.getD i r0).2.2.2.1, U)) (i := i) ka rfl rfl) (by omega)
    rw [getD_set_eq l i _ (by have := ka.len; omega)] at this
    exact this)
  unfold rotL
  rw [if_neg hn, ht]
  rw [ht] at hb HT
  clear hn ht
  have hin : (l.getD i r0).1 = p := ka.inn i (by omega) (by omega)
  have hlt : i < l.length := by omega
  have ko := ok.keys i hlt
  have RP := Lib.hid (rot_pos ok.ord ka (by omega))
  obtain ⟨x, hx⟩ : ∃ y, l.getD i r0 = y := ⟨_, rfl⟩
  have HX := Lib.hid hx
  rw [hx] at hin ko RP hb HT ⊢
  simp only [hx] at NH
  obtain ⟨o1, o2, o3, o4, o5⟩ := x
  unfold keyOk at ko
  simp only at hin ko RP hb HT ⊢
  obtain ⟨⟨k1, k2⟩, ⟨k3, k4⟩, k5, k6, k7, k8⟩ := ko
  have wS : IntKind.i64.wrap (o2 + 1) = o2 + 1 := by rw [IntKind.wrap_i64]; omega
  obtain ⟨S, hS⟩ : ∃ z, o2 + 1 = z := ⟨_, rfl⟩
  rw [hS] at wS RP hb ⊢
  simp only [hS] at NH
  have wS2 : IntKind.i64.wrap S = S := wS
  have VA := Lib.hid (fun W : World => rvalid_any (p, S, s, at_, 1099511627776) W)
  simp only [encR] at VA
  rw [hN] at hlen hlt hm
  have i0 : (0 : Int) ≤ (i : Int) := by omega
  have iN : (i : Int) < (N : Int) := by omega
  simp only [hN, hl] at LA
  have t0 : decide ((i : Int) < 0) = false := decide_eq_false (by omega)
  rw [if_neg hb]
  unfold argBad at hb
  rw [hN]
  have a1 : ¬ at_ < 0 := fun q => hb (Or.inl q)
  have a2 : ¬ 1099511627776 < at_ := fun q => hb (Or.inr (Or.inl q))
  have a3 : ¬ ov < 0 := fun q => hb (Or.inr (Or.inr (Or.inl q)))
  have a4 : ¬ 1099511627776 < ov := fun q => hb (Or.inr (Or.inr (Or.inr (Or.inl q))))
  have v1 : keyB (p, S, s, at_, 1099511627776) = true := decide_eq_true (Decidable.of_not_not fun q => hb (Or.inr (Or.inr (Or.inr (Or.inr q)))))
  rw [v1] at VA
  have ta1 : decide (at_ < 0) = false := decide_eq_false (by omega)
  have ta2 : decide (1099511627776 < at_) = false := decide_eq_false (by omega)
  have ta3 : decide (ov < 0) = false := decide_eq_false (by omega)
  have ta4 : decide (1099511627776 < ov) = false := decide_eq_false (by omega)
  have wE : IntKind.i64.wrap (at_ + ov) = at_ + ov := by rw [IntKind.wrap_i64]; omega
  obtain ⟨E, hE⟩ : ∃ z, at_ + ov = z := ⟨_, rfl⟩
  rw [hE] at wE HT ⊢
  have wE2 : IntKind.i64.wrap E = E := wE
  rw [if_neg HT]
  have e1 : ¬ E ≤ o4 := fun q => HT (Or.inl q)
  have e2 : ¬ o5 < at_ := fun q => HT (Or.inr q)
  have te1 : decide (E ≤ o4) = false := decide_eq_false (by omega)
  have te2 : decide (o5 < at_) = false := decide_eq_false (by omega)
  rw [hN] at hlim
  rw [if_neg hlim]
  have tl : decide ((1000 : Int) ≤ (N : Int)) = false := decide_eq_false (by omega)
  have hil : i + 1 ≤ N := hlen
  clear hb HT a1 a2 a3 a4 v1 e1 e2 hlim
  clear hp hN ok ka hlen hle hin hl hx k1 k2 k3 k4 k5 k6 k7 k8
  go_enter Tryd.func21, Tryd.ntmps21
  obtain ⟨G, hG⟩ : ∃ G, w.heap.size = G := ⟨_, rfl⟩
  have HG := Lib.hid hG
  have Kr := Lib.hid (show Blk (w.alloc (.cells #[.slice none 0 0, .int .i64 0] 34)) (G) 34 #[.slice none 0 0, .int .i64 0] from Blk.new' _ _ _ _ hG rfl)
  have B := Lib.hid (show Below w.heap.size w (w.alloc (.cells #[.slice none 0 0, .int .i64 0] 34)) by (repeat' (first | (with_reducible exact Below.refl _ _) | (with_reducible assumption) | (with_reducible refine Below.alloc ?_ ?_ _) | (with_reducible refine Below.drew ?_) | (with_reducible refine below_dn ?_) | (with_reducible refine Below.setCell ?_ ?_ _) | (with_reducible exact Nat.le_refl _) | omega | (simp only [World.size_alloc, World.size_setCell, World.size_drew]; omega) | (simp; omega) | (simp; done))))
  go_upto_region 1 with (fail)
  try rw [hG]
  generalize hw0 : (w.alloc (.cells #[.slice none 0 0, .int .i64 0] 34)) = w0 at Kr B ⊢
  clear hw0 hG
  obtain ⟨brc0, brc1⟩ := twob Kr.out
  go_wp2_with fail
  refine (LA.out _ (HP.out.mono B.out)).mono ?_
  rintro e w1 ⟨rfl, hb⟩
  replace Kr := Lib.hid (Kr.out.below hb Kr.out.lt)
  replace B := Lib.hid (B.out.trans (hb.mono B.out.size))
  clear brc0 brc1
  clear hb
  obtain ⟨brc0, brc1⟩ := twob Kr.out
  obtain ⟨b, off, rfl, q0, q1, q2, q3, q4⟩ := RwA.at_ (HP.out.mono B.out) (k := i) (by rw [HE.out]; exact hlt)
  rw [HX.out] at q0 q1 q2 q3 q4
  simp only at q0 q1 q2 q3 q4
  obtain ⟨gk, hgk⟩ : ∃ G, w1.heap.size = G := ⟨_, rfl⟩
  have Kk := Lib.hid (show Blk (w1.alloc (.cells #[.int .i64 p, .int .i64 S, .string s, .int .i64 at_, .int .i64 1099511627776] 24)) gk 24 #[.int .i64 p, .int .i64 S, .string s, .int .i64 at_, .int .i64 1099511627776] from Blk.new' w1 _ _ _ hgk rfl)
  have Nrk := Lib.hid (show G < gk from by rw [← hgk]; exact Kr.out.lt)
  replace Kr := Lib.hid (Kr.out.alloc (.cells #[.int .i64 p, .int .i64 S, .string s, .int .i64 at_, .int .i64 1099511627776] 24))
  have Lk := Lib.hid (show w.heap.size ≤ gk from by rw [← hgk]; exact B.out.size)
  replace B := Lib.hid (B.out.alloc B.out.size (.cells #[.int .i64 p, .int .i64 S, .string s, .int .i64 at_, .int .i64 1099511627776] 24))
  go_upto_region 7 with (fail)
  try rw [hgk]
  generalize hw : w1.alloc (.cells #[.int .i64 p, .int .i64 S, .string s, .int .i64 at_, .int .i64 1099511627776] 24) = w2 at Kr Kk  B ⊢
  clear brc0 brc1
  clear hw hgk
  clear q0 q1 q2 q3 q4
  obtain ⟨brc0, brc1⟩ := twob Kr.out
  obtain ⟨bkc0, bkc1, bkc2, bkc3, bkc4⟩ := five Kk.out
  go_wp2_with fail
  refine (VA.out _).mono ?_
  rintro e w3 ⟨rfl, hb⟩
  replace Kr := Lib.hid (Kr.out.below hb Kr.out.lt)
  replace Kk := Lib.hid (Kk.out.below hb Kk.out.lt)
  replace B := Lib.hid (B.out.trans (hb.mono B.out.size))
  clear brc0 brc1 bkc0 bkc1 bkc2 bkc3 bkc4
  clear hb
  obtain ⟨brc0, brc1⟩ := twob Kr.out
  obtain ⟨bkc0, bkc1, bkc2, bkc3, bkc4⟩ := five Kk.out
  obtain ⟨q0, q1, q2, q3, q4⟩ := RwA.cells_ (HP.out.mono B.out) (k := i) (by rw [HE.out]; exact hlt) rfl
  rw [HX.out] at q0 q1 q2 q3 q4
  simp only at q0 q1 q2 q3 q4
  have HRG := Lib.hid Kr.out.lt
  have HKG := Lib.hid Kk.out.lt
  have E0 : Ke.OwnA (w3.alloc (.cells #[] 24)) w3.heap.size (.slice (some ⟨w3.heap.size, 0, none⟩) 0 0) [] := ⟨rfl, .inr ⟨w3.heap.size, 0, #[], rfl, Nat.le_refl _, heap_alloc_new w3 _, Nat.le_refl _, Nat.zero_le _, rfl, rfl⟩⟩
  obtain ⟨b2, n2, c2, w7, hr, ho, hb⟩ := Ke.app_A 22 (w3.alloc (.cells #[] 24)) w3.heap.size _ [] E0 (some ⟨b, off, none⟩) c l ((HP.out.mono B.out).mono (by (repeat' (first | (with_reducible exact Below.refl _ _) | (with_reducible assumption) | (with_reducible refine Below.alloc ?_ ?_ _) | (with_reducible refine Below.drew ?_) | (with_reducible refine below_dn ?_) | (with_reducible refine Below.setCell ?_ ?_ _) | (with_reducible exact Nat.le_refl _) | omega | (simp only [World.size_alloc, World.size_setCell, World.size_drew]; omega) | (simp; omega) | (simp; done))))) (by simp) (by rw [HE.out]; omega) (by simp)
  rw [HE.out] at hr
  have HR := Lib.hid hr
  have HO := Lib.hid (show Ke.OwnA w7 w3.heap.size (.slice b2 n2 c2) l from ho)
  have BB := Lib.hid (show Below w3.heap.size w3 w7 from ((Below.refl _ _).alloc (Nat.le_refl _) _).trans hb)
  clear hr ho hb E0
  go_upto_region 15 with (at_builtin; refine wpList_app_run rfl _ _ _ _ rfl _ _ _ w7 rfl rfl HR.out ?_)
  clear HR q0 q1 q2 q3 q4
  clear brc0 brc1 bkc0 bkc1 bkc2 bkc3 bkc4
  replace Kr := Lib.hid (Kr.out.below BB.out Kr.out.lt)
  replace Kk := Lib.hid (Kk.out.below BB.out Kk.out.lt)
  have HB0 := Lib.hid B.out.size
  replace B := Lib.hid (B.out.trans (BB.out.mono B.out.size))
  have hi7 : i < l.length := by rw [HE.out]; exact hlt
  obtain ⟨g7, rfl, hn7, hB7, e0, e1, e2, e3, e4, fz7⟩ := own_at HO.out hi7
  have ST := Lib.hid (own_set (j := 4) HO.out hi7 (by decide) (.int .i64 (min o5 E)) (o1, o2, o3, o4, min o5 E) (by rw [HX.out]; rfl))
  rw [HX.out] at e0 e1 e2 e3 e4
  simp only at e0 e1 e2 e3 e4
  obtain ⟨U, hU⟩ : ∃ z, min o5 E = z := ⟨_, rfl⟩
  have hU2 : (if E < o5 then E else o5) = U := by rw [← hU, Int.min_def]; split <;> split <;> omega
  have hU3 : min E o5 = U := by rw [Int.min_comm]; exact hU
  rw [hU] at ST
  have n0 : (i : Int) < (n2 : Int) := by rw [hn7, HE.out]; exact_mod_cast hlt
  have n29 : n2 = N := by rw [hn7, HE.out]
  subst n29
  clear hn7
  have hgr : G < g7 := by have := HRG.out; omega
  have hgk : gk ≠ g7 := by have := HKG.out; omega
  have hrr : w.heap.size ≤ g7 := Nat.le_trans HB0.out hB7
  obtain ⟨brc0, brc1⟩ := twob Kr.out
  obtain ⟨bkc0, bkc1, bkc2, bkc3, bkc4⟩ := five Kk.out
  replace Kr := Lib.hid (show Blk (w7.setCell ⟨g7, i * 5 + 4, none⟩ (.int .i64 U)) G 34 _ from Kr.out.far (p := ⟨g7, i * 5 + 4, none⟩) (by show G ≠ g7; omega) (.int .i64 U))
  replace Kk := Lib.hid (show Blk (w7.setCell ⟨g7, i * 5 + 4, none⟩ (.int .i64 U)) gk 24 _ from Kk.out.far (p := ⟨g7, i * 5 + 4, none⟩) (by show gk ≠ g7; exact hgk) (.int .i64 U))
  replace B := Lib.hid (show Below w.heap.size w (w7.setCell ⟨g7, i * 5 + 4, none⟩ (.int .i64 U)) from B.out.setCell (p := ⟨g7, i * 5 + 4, none⟩) hrr (.int .i64 U))
  go_upto_region 16 with (fail)
  generalize hw9 : (w7.setCell ⟨g7, i * 5 + 4, none⟩ (.int .i64 U)) = w9 at ST Kr Kk B ⊢
  clear brc0 brc1 bkc0 bkc1 bkc2 bkc3 bkc4
  clear hw9 e0 e1 e2 e3 e4 fz7 hgr hgk hrr hB7
  obtain ⟨a9, c9, e9, -, h9⟩ := OwnR.view encR_len ST.out
  injection e9 with e9a e9b e9c
  subst e9a
  subst e9c
  clear e9b
  have H9 := Lib.hid h9
  clear h9
  have IN := Lib.hid (fun (X : World) (h : RwA X (some ⟨g7, 0, none⟩) (l.set i (o1, o2, o3, o4, U))) => insert_rows (some ⟨g7, 0, none⟩) c2 (l.set i (o1, o2, o3, o4, U)) (p, S, s, at_, 1099511627776) X h (NH.out U).2 (by rw [List.length_set, HE.out]; omega))
  simp only [encR, List.length_set, HE.out, (NH.out U).1] at IN
  have UE := Lib.hid hU
  obtain ⟨L, hL⟩ : ∃ z, insL (l.set i (o1, o2, o3, o4, U)) (i + 1) (p, S, s, at_, 1099511627776) = z := ⟨_, rfl⟩
  have LE := Lib.hid hL
  simp only [hL] at IN
  obtain ⟨M, hM⟩ : ∃ M, L.length = M := ⟨_, rfl⟩
  have ME := Lib.hid hM
  simp only [hM] at IN
  clear hL hM hU hU2 hU3
  obtain ⟨brc0, brc1⟩ := twob Kr.out
  obtain ⟨bkc0, bkc1, bkc2, bkc3, bkc4⟩ := five Kk.out
  have H9b := H9
  have Qr := Lib.hid Kr.out.lt
  go_wp2_with fail
  refine (IN.out _ H9.out).mono ?_
  rintro e w4 ⟨⟨ap, cp, rfl, hr, hf⟩, hb⟩
  have Zp := Lib.hid hr
  have Fp := Lib.hid hf
  replace Kr := Lib.hid (Kr.out.below hb Kr.out.lt)
  replace Kk := Lib.hid (Kk.out.below hb Kk.out.lt)
  replace B := Lib.hid (B.out.trans (hb.mono B.out.size))
  clear brc0 brc1 bkc0 bkc1 bkc2 bkc3 bkc4
  clear hb hr hf
  obtain ⟨brc0, brc1⟩ := twob Kr.out
  obtain ⟨bkc0, bkc1, bkc2, bkc3, bkc4⟩ := five Kk.out
  have Rp := Zp
  clear Zp
  have Epr := Lib.hid (show ∀ p, ap = some p → p.block ≠ G from fun p hp => by have h1 := Fp.out p hp; have h2 := Qr.out; omega)
  clear Fp Qr
  clear brc0 brc1 bkc0 bkc1 bkc2 bkc3 bkc4
  obtain ⟨brc0, brc1⟩ := twob Kr.out
  obtain ⟨bkc0, bkc1, bkc2, bkc3, bkc4⟩ := five Kk.out
  have fzr := fun q => Kr.out.frozen q
  go_wp2
  have K9 := Lib.hid (show Blk ((w4.setCell ⟨G, 0, none⟩ (.slice ap M cp)).setCell ⟨G, 1, none⟩ (.int .i64 0)) (G) 34 #[.slice ap M cp, .int .i64 0] from ((Kr.out.set_ 0 (.slice ap M cp)).set_ 1 (.int .i64 0)))
  have B9 := ((B.out.setCell (p := ⟨G, 0, none⟩) (show w.heap.size ≤ G by have := HG.out; omega) (.slice ap M cp)).setCell (p := ⟨G, 1, none⟩) (show w.heap.size ≤ G by have := HG.out; omega) (.int .i64 0))
  have Sp := (RowsA.far (RowsA.far Rp.out (p := ⟨G, 0, none⟩) (Epr.out) (.slice ap M cp)) (p := ⟨G, 1, none⟩) (Epr.out) (.int .i64 0))
  generalize hw2 : ((w4.setCell ⟨G, 0, none⟩ (.slice ap M cp)).setCell ⟨G, 1, none⟩ (.int .i64 0)) = w9 at K9 B9 Sp ⊢
  clear brc0 brc1 bkc0 bkc1 bkc2 bkc3 bkc4 fzr
  clear hw2
  obtain ⟨d0, d1⟩ := twob K9.out
  refine bodyPost_ret (by simp [results, Tryd.results21, go_sem, d0, d1]; try rfl) rfl ?_
  exact ⟨by rw [UE.out, LE.out]; exact ⟨ap, cp, by rw [ME.out], Sp⟩, B9⟩
theorem rrot_any (a : Option Addr) (c : Nat) (l : List Rw) (p : Int) (s : ByteArray) (at_ ov : Int) (w : World) (hp : RwA w a l) (ok : RingOk l) :
    Calls Tryd.prog 21 #[.slice a l.length c, .int .i64 p, .string s, .int .i64 at_, .int .i64 ov] w fun e w' => RowsS (rotL l p s at_ ov) w' e ∧ Below w.heap.size w w' := by
  obtain ⟨T, ka⟩ := keys_ex ok p
  by_cases h : posC (cR p 1) l < T
  · by_cases hb : argBad (p, (l.getD (lastL l p).toNat r0).2.1 + 1, s, at_, 1099511627776) at_ ov
    · exact rrot_arg a c l p s at_ ov w hp ok _ T ka h hb
    · by_cases HT : at_ + ov ≤ (l.getD (lastL l p).toNat r0).2.2.2.1 ∨ (l.getD (lastL l p).toNat r0).2.2.2.2 < at_
      · exact rrot_time a c l p s at_ ov w hp ok _ T ka h hb HT
      · by_cases hlim : 1000 ≤ l.length
        · exact rrot_limit a c l p s at_ ov w hp ok _ T ka h hb HT hlim
        · exact rrot_ok a c l p s at_ ov w hp ok _ T ka h hb HT hlim
  · exact rrot_name a c l p s at_ ov w hp ok _ T ka (by have := ka.le; omega)
end
end Go.Proofs.YtcdcnklfcmoiiaaDoor
