/- Law 5: two sketches merge as the specification says (T, S, P5 and W in one text). -/
import Derived.Test.YtmmjkhamknfhpaaDoorQ
import Derived.BigQuiet
import Derived.Test.YtmmjkhamknfhpaaDoorN
import Derived.Lib.QuietBelow
import Derived.Deep.RegionHeld3
namespace Go.Proofs.YtmmjkhamknfhpaaDoor
set_option linter.unusedVariables false
set_option linter.unusedSimpArgs false
section
open Go.RowKit
theorem mergeL_take (a b : List Int) (h : a.length = b.length) (k : Nat) (hk : k < a.length) : mergeL (a.take (k + 1)) (b.take (k + 1)) = mergeL (a.take k) (b.take k) ++ [min 15 (a.getD k 0 + b.getD k 0)] := by
  have hb : k < b.length := by omega
  rw [List.take_add_one, List.take_add_one, List.getElem?_eq_getElem hk, List.getElem?_eq_getElem hb, getD_at 0 hk, getD_at 0 hb]
  unfold mergeL
  rw [List.zipWith_append (by simp; omega)]
  simp
theorem ints_apart {w : World} {a : Option Addr} {l : List Int} {g : Nat} {t : TypeId} {i0 i1 i2 i4 : Value} (h : IntsA w a l) (hl : 4 ≤ l.length) (hb : Blk w g t #[i0, i1, i2, .slice none 0 0, i4]) : ∀ b off, a = some ⟨b, off, none⟩ → b ≠ g := by
  rintro b off rfl rfl
  by_cases ho : off ≤ 3
  · obtain ⟨b', off', e, h1⟩ := h (3 - off) (by omega)
    simp only [Option.some.injEq, Addr.mk.injEq, and_true] at e
    obtain ⟨rfl, rfl⟩ := e
    have h2 := hb.cell 3
    rw [show off + (3 - off) = 3 by omega, h2] at h1
    simp at h1
  · obtain ⟨b', off', e, h1⟩ := h 1 (by omega)
    simp only [Option.some.injEq, Addr.mk.injEq, and_true] at e
    obtain ⟨rfl, rfl⟩ := e
    have h2 := hb.cell (off + 1)
    rw [h2] at h1
    rw [Array.getElem?_eq_none (by simp; omega)] at h1
    cases h1
theorem IntsA.rowfar {w : World} {a : Option Addr} {l : List Int} {g : Nat} (h : IntsA w a l) (hg : ∀ b off, a = some ⟨b, off, none⟩ → b ≠ g) (cs : Array Value) : IntsA (w.setRow g cs) a l := fun k hk => by
  obtain ⟨b, off, e, h1⟩ := h k hk
  refine ⟨b, off, e, ?_⟩
  have := setRow_other w g b cs (hg b off e)
  unfold World.cell? at h1 ⊢
  simpa [this] using h1
set_option maxRecDepth 100000 in
set_option maxHeartbeats 400000 in
theorem mergeref_no (W1 S1 A1 W2 S2 A2 : Int) (v1 v2 : Value) (w : World) (h : W1 ≠ W2 ∨ S1 ≠ S2) :
    Calls Tryd.prog 25 #[.agg #[.int .i64 W1, .int .i64 S1, .int .i64 A1, v1], .agg #[.int .i64 W2, .int .i64 S2, .int .i64 A2, v2]] w fun e w' => e = .returned (.agg #[.int .i64 0, .int .i64 0, .int .i64 0, .slice none 0 0, .int .i64 1]) ∧ Below w.heap.size w w' := by
  by_cases hW : W1 = W2
  · subst hW
    have hS : S1 ≠ S2 := by rcases h with h | h; exact absurd rfl h; exact h
    have t1 : (S1 != S2) = true := bne_iff_ne.2 hS
    clear h
    go_enter Tryd.func25, Tryd.ntmps25
    go_wp2
    refine bodyPost_ret (by simp [results, Tryd.results25, go_sem]; try rfl) rfl ?_
    exact ⟨rfl, by (repeat' (first | (with_reducible exact Below.refl _ _) | (with_reducible assumption) | (with_reducible refine Below.alloc ?_ ?_ _) | (with_reducible refine Below.drew ?_) | (with_reducible refine below_dn ?_) | (with_reducible refine Below.setCell ?_ ?_ _) | (with_reducible exact Nat.le_refl _) | omega | (simp only [World.size_alloc, World.size_setCell, World.size_drew]; omega) | (simp; omega) | (simp; done)))⟩
  · have t1 : (W1 != W2) = true := bne_iff_ne.2 hW
    clear h
    go_enter Tryd.func25, Tryd.ntmps25
    go_wp2
    refine bodyPost_ret (by simp [results, Tryd.results25, go_sem]; try rfl) rfl ?_
    exact ⟨rfl, by (repeat' (first | (with_reducible exact Below.refl _ _) | (with_reducible assumption) | (with_reducible refine Below.alloc ?_ ?_ _) | (with_reducible refine Below.drew ?_) | (with_reducible refine below_dn ?_) | (with_reducible refine Below.setCell ?_ ?_ _) | (with_reducible exact Nat.le_refl _) | omega | (simp only [World.size_alloc, World.size_setCell, World.size_drew]; omega) | (simp; omega) | (simp; done)))⟩
set_option maxRecDepth 100000 in
set_option maxHeartbeats 1000000 in
theorem mergeref_any (N : Nat) (S A1 A2 : Int) (a1 a2 : Option Addr) (c1 c2 : Nat) (l1 l2 : List Int) (w : World) (hp1 : IntsA w a1 l1) (hp2 : IntsA w a2 l2) (hl1 : l1.length = 4 * N) (hl2 : l2.length = 4 * N) (N0 : 0 < N) (N4 : N ≤ 4096)
    (h1 : ∀ x ∈ l1, 0 ≤ x ∧ x ≤ 15) (h2 : ∀ x ∈ l2, 0 ≤ x ∧ x ≤ 15) (hA1 : 0 ≤ A1) (hA1' : A1 < S) (hA2 : 0 ≤ A2) (hA2' : A2 < S) (hS : S ≤ 1048576) :
    Calls Tryd.prog 25 #[.agg #[.int .i64 N, .int .i64 S, .int .i64 A1, .slice a1 l1.length c1], .agg #[.int .i64 N, .int .i64 S, .int .i64 A2, .slice a2 l1.length c2]] w fun e w' => (∃ b c, e = .returned (.agg #[.int .i64 N, .int .i64 S, .int .i64 (mgA S A1 A2), .slice b l1.length c, .int .i64 0]) ∧ IntsA w' b (mgL S A1 A2 l1 l2)) ∧ Below w.heap.size w w' := by
  have hE : l1.length = l2.length := by omega
  have HP := Lib.hid hp1
  have HQ := Lib.hid hp2
  have HB := Lib.hid (mergeL_bd l1 l2 h1 h2)
  have EQ := Lib.hid hE
  have ML := Lib.hid (mergeL_len l1 l2 hE)
  have H1 := Lib.hid (fun k => getD_small l1 h1 k)
  have H2 := Lib.hid (fun k => getD_small l2 h2 k)
  have n4 : 4 ≤ l1.length := by omega
  have nM : l1.length ≤ 1000000 := by omega
  obtain ⟨n, hn⟩ : ∃ n, l1.length = n := ⟨_, rfl⟩
  have HE := Lib.hid hn
  have wm : IntKind.i64.wrap (A1 + A2) = A1 + A2 := by rw [IntKind.wrap_i64]; omega
  obtain ⟨M, hM⟩ : ∃ M, A1 + A2 = M := ⟨_, rfl⟩
  have HM := Lib.hid hM
  have M0 : 0 ≤ M := by omega
  have M1 : M ≤ 9223372036854775807 := by omega
  rw [hM] at wm
  rw [hn] at n4 nM ML ⊢
  have AH := Lib.hid (show mgA S A1 A2 = if S ≤ M then M / 2 else M by unfold mgA; rw [hM])
  have LH := Lib.hid (show mgL S A1 A2 l1 l2 = if S ≤ M then halve (mergeL l1 l2) else mergeL l1 l2 by unfold mgL; rw [hM])
  clear hp1 hp2 hl1 hl2 h1 h2 hn hE N0 N4
  go_enter Tryd.func25, Tryd.ntmps25
  go_wp2
  go_loopw [6, 7] (fun u6 _ wr => ∃ (k : Nat) (v : Value), k ≤ n ∧ u6 = .int .i64 k ∧ Hid (OwnI wr (w.heap.size + 4) v (mergeL (l1.take k) (l2.take k))) ∧ Hid (Blk wr w.heap.size 24 #[.int .i64 N, .int .i64 S, .int .i64 A1, .slice a1 n c1]) ∧ Hid (Blk wr (w.heap.size + 1) 24 #[.int .i64 N, .int .i64 S, .int .i64 A2, .slice a2 n c2]) ∧ Hid (Blk wr (w.heap.size + 1 + 1) 30 #[.int .i64 0, .int .i64 0, .int .i64 0, .slice none 0 0, .int .i64 0]) ∧ Hid (Blk wr (w.heap.size + 1 + 1 + 1) 24 #[.int .i64 N, .int .i64 S, .int .i64 M, v]) ∧ w.heap.size + 4 ≤ wr.heap.size ∧ Hid (Below w.heap.size w wr)) (fun u6 _ _ => n - (intOf u6).toNat)
  case atStart =>
    refine ⟨0, .slice none 0 0, by omega, rfl, Lib.hid (OwnI.nil _ _), Lib.hid ((((Blk.new' w _ _ _ rfl rfl).alloc _).alloc _).alloc _), Lib.hid (((Blk.new' _ _ _ _ (World.size_alloc _ _) rfl).alloc _).alloc _), Lib.hid ((Blk.new' _ _ _ _ (by simp) rfl).alloc _), Lib.hid (Blk.new' _ _ _ _ (by simp) rfl), by simp, Lib.hid (by (repeat' (first | (with_reducible exact Below.refl _ _) | (with_reducible assumption) | (with_reducible refine Below.alloc ?_ ?_ _) | (with_reducible refine Below.drew ?_) | (with_reducible refine below_dn ?_) | (with_reducible refine Below.setCell ?_ ?_ _) | (with_reducible exact Nat.le_refl _) | omega | (simp only [World.size_alloc, World.size_setCell, World.size_drew]; omega) | (simp; omega) | (simp; done))))⟩
  case round =>
    obtain ⟨k, v, hk, rfl, HO, K1, K2, K3, K4, hsz, BB⟩ := hrel
    have e3 : wr.cell? ⟨w.heap.size, 3, none⟩ = some (.slice a1 n c1) := K1.out.cell 3
    have e4 : wr.cell? ⟨w.heap.size + 1, 3, none⟩ = some (.slice a2 n c2) := K2.out.cell 3
    by_cases hlt : k < n
    · have kl : k < l1.length := by rw [HE.out]; exact hlt
      obtain ⟨b1, o1, rfl, q1⟩ := (HP.out.mono BB.out) k kl
      obtain ⟨b2, o2, rfl, q2⟩ := (HQ.out.mono BB.out) k (by rw [← EQ.out]; exact kl)
      have ht := mergeL_take l1 l2 EQ.out k kl
      have x0 := H1.out k
      have y0 := H2.out k
      obtain ⟨x, hx⟩ : ∃ x, l1.getD k 0 = x := ⟨_, rfl⟩
      obtain ⟨y, hy⟩ : ∃ y, l2.getD k 0 = y := ⟨_, rfl⟩
      rw [hx] at q1 x0 ht
      rw [hy] at q2 y0 ht
      have wxy : IntKind.i64.wrap (x + y) = x + y := by rw [IntKind.wrap_i64]; omega
      obtain ⟨z, hz⟩ : ∃ z, x + y = z := ⟨_, rfl⟩
      rw [hz] at ht wxy
      have LN := Lib.hid (show (mergeL (l1.take k) (l2.take k)).length ≤ 1000000000 by unfold mergeL; simp; omega)
      have HT := Lib.hid ht
      clear hx hy ht kl
      go_wp2
      go_quiet (fail)
      have HO := Lib.hid (HO.out.drewN (n := nq))
      have K1 := Lib.hid (K1.out.drewN nq)
      have K2 := Lib.hid (K2.out.drewN nq)
      have K3 := Lib.hid (K3.out.drewN nq)
      have K4 := Lib.hid (K4.out.drewN nq)
      have BB := Lib.hid (below_dn (n := nq) BB.out)
      have hsq : w.heap.size + 4 ≤ (World.drewN wr nq).heap.size := hsz
      clear e3 e4 q1 q2
      generalize World.drewN wr nq = wq at HO K1 K2 K3 K4 BB hsq ⊢
      have g3 : wq.cell? ⟨w.heap.size + 1 + 1 + 1, 3, none⟩ = some v := K4.out.cell 3
      have HS := Lib.hid hsq
      obtain ⟨m, hm⟩ : ∃ m, min 15 z = m := ⟨_, rfl⟩
      rw [hm] at HT
      by_cases h15 : 15 < z
      · obtain rfl : m = 15 := by omega
        have t1 : decide (15 < z) = true := decide_eq_true h15
        clear hm
        go_wp2_with (at_builtin; refine wpAppI rfl _ _ rfl (w.heap.size + 4) _ _ rfl HO.out 15 _ ?hy rfl ?hlen ?hBB ?_)
        case hy => rfl
        case hlen => exact LN.out
        try (case hBB => exact HS.out)
        intro v' w2 hown' hb2
        obtain ⟨b3, c3, rfl, -, -⟩ := hown'.view
        have ln3 : (mergeL (l1.take k) (l2.take k) ++ [15]).length = k + 1 := by rw [List.length_append]; unfold mergeL; simp; have := HE.out; have := EQ.out; omega
        rw [ln3] at hown' ⊢
        rw [← HT.out] at hown'
        have HX := Lib.hid hown'
        have K1 := Lib.hid (K1.out.below hb2 (by omega))
        have K2 := Lib.hid (K2.out.below hb2 (by omega))
        have K3 := Lib.hid (K3.out.below hb2 (by omega))
        have K4 := Lib.hid (K4.out.below hb2 (by omega))
        have BB := Lib.hid (show Below w.heap.size w w2 from BB.out.trans (hb2.mono (by omega)))
        have z2 : w.heap.size + 4 ≤ w2.heap.size := Nat.le_trans HS.out hb2.size
        have g4 : w2.cell? ⟨w.heap.size + 1 + 1 + 1, 3, none⟩ = some v := K4.out.cell 3
        have f4 := K4.out.frozen 3
        clear hown' hb2 g3 ln3
        go_wp2
        go_roundw
        case rel => exact ⟨k + 1, _, by omega, by go_num, Lib.hid (HX.out.far (by first | (simp; done) | (simp; omega)) _), Lib.hid (K1.out.far (by first | (simp; done) | (simp; omega)) _), Lib.hid (K2.out.far (by first | (simp; done) | (simp; omega)) _), Lib.hid (K3.out.far (by first | (simp; done) | (simp; omega)) _), Lib.hid (show Blk _ _ _ _ from K4.out.set_ 3 _), by first | (simp; done) | (simp; omega), Lib.hid (BB.out.setCell (by first | (simp; done) | (simp; omega)) _)⟩
        case measure => simp [intOf]; omega
      · obtain rfl : m = z := by omega
        have t1 : decide (15 < m) = false := decide_eq_false h15
        clear hm
        go_wp2_with (at_builtin; refine wpAppI rfl _ _ rfl (w.heap.size + 4) _ _ rfl HO.out m _ ?hy rfl ?hlen ?hBB ?_)
        case hy => rfl
        case hlen => exact LN.out
        try (case hBB => exact HS.out)
        intro v' w2 hown' hb2
        obtain ⟨b3, c3, rfl, -, -⟩ := hown'.view
        have ln3 : (mergeL (l1.take k) (l2.take k) ++ [m]).length = k + 1 := by rw [List.length_append]; unfold mergeL; simp; have := HE.out; have := EQ.out; omega
        rw [ln3] at hown' ⊢
        rw [← HT.out] at hown'
        have HX := Lib.hid hown'
        have K1 := Lib.hid (K1.out.below hb2 (by omega))
        have K2 := Lib.hid (K2.out.below hb2 (by omega))
        have K3 := Lib.hid (K3.out.below hb2 (by omega))
        have K4 := Lib.hid (K4.out.below hb2 (by omega))
        have BB := Lib.hid (show Below w.heap.size w w2 from BB.out.trans (hb2.mono (by omega)))
        have z2 : w.heap.size + 4 ≤ w2.heap.size := Nat.le_trans HS.out hb2.size
        have g4 : w2.cell? ⟨w.heap.size + 1 + 1 + 1, 3, none⟩ = some v := K4.out.cell 3
        have f4 := K4.out.frozen 3
        clear hown' hb2 g3 ln3
        go_wp2
        go_roundw
        case rel => exact ⟨k + 1, _, by omega, by go_num, Lib.hid (HX.out.far (by first | (simp; done) | (simp; omega)) _), Lib.hid (K1.out.far (by first | (simp; done) | (simp; omega)) _), Lib.hid (K2.out.far (by first | (simp; done) | (simp; omega)) _), Lib.hid (K3.out.far (by first | (simp; done) | (simp; omega)) _), Lib.hid (show Blk _ _ _ _ from K4.out.set_ 3 _), by first | (simp; done) | (simp; omega), Lib.hid (BB.out.setCell (by first | (simp; done) | (simp; omega)) _)⟩
        case measure => simp [intOf]; omega
    · have hkn : k = n := by omega
      have ho := HO.out
      rw [hkn, List.take_of_length_le (by rw [HE.out]; omega), List.take_of_length_le (by rw [← EQ.out, HE.out]; omega)] at ho
      obtain ⟨b, c, rfl, hc, hi⟩ := ho.view
      rw [ML.out] at K4
      have HI := Lib.hid hi
      clear ho hc hi HO hkn
      have d0 := K4.out.cell 0
      change _ = some (Value.int .i64 N) at d0
      have d1 := K4.out.cell 1
      change _ = some (Value.int .i64 S) at d1
      have d2 := K4.out.cell 2
      change _ = some (Value.int .i64 M) at d2
      have d3 := K4.out.cell 3
      change _ = some (Value.slice b n c) at d3
      by_cases hS1 : S ≤ M
      · have t1 : decide (S ≤ M) = true := decide_eq_true hS1
        have EA := Lib.hid (show mgA S A1 A2 = M / 2 by rw [AH.out, if_pos hS1])
        have EL := Lib.hid (show mgL S A1 A2 l1 l2 = halve (mergeL l1 l2) by rw [LH.out, if_pos hS1])
        have HV := Lib.hid (fun (Y : World) (h : IntsA Y b (mergeL l1 l2)) => halveref_any N S M b c (mergeL l1 l2) Y h (by rw [ML.out]; exact nM) HB.out M0 M1)
        rw [ML.out] at HV
        go_wp2_with fail
        refine (HV.out _ HI.out).mono ?_
        rintro e w5 ⟨⟨b2, c3, rfl, -, hi2⟩, hb5⟩
        have K3 := Lib.hid (K3.out.below hb5 K3.out.lt)
        have BB := Lib.hid (bt BB.out hb5)
        have HI2 := Lib.hid hi2
        obtain ⟨M2, hM2⟩ : ∃ x, M / 2 = x := ⟨_, rfl⟩
        rw [hM2] at EA ⊢
        clear hb5 hi2 HV d0 d1 d2 d3
        have IX := Lib.hid (show (Tryd.prog.info? 30).map (·.size) = some (#[.int .i64 N, .int .i64 S, .int .i64 M2, .slice b2 n c3, .int .i64 0] : Array Value).size by kernel_rfl)
        have Ioq := Lib.hid (show (#[.int .i64 N, .int .i64 S, .int .i64 M2, .slice b2 n c3, .int .i64 0] : Array Value).all (·.oneCell') = true by simp [Value.oneCell'])
        go_wp2_with (first | (with_reducible refine wpList_store_blk rfl _ _ _ rfl (w.heap.size + 1 + 1) 30 #[.int .i64 0, .int .i64 0, .int .i64 0, .slice none 0 0, .int .i64 0] #[.int .i64 N, .int .i64 S, .int .i64 M2, .slice b2 n c3, .int .i64 0] rfl rfl K3.out IX.out rfl Ioq.out rfl ?_) | fail)
        rw [EA.out, EL.out]
        refine bodyPost_ret (results_cell_row rfl _ _ _ 30 _ (0, 0) _ rfl (K3.out.row_ _) Tryd.underlying30 rfl IX.out) rfl ?_
        have HX := HI2.out.rowfar (ints_apart HI2.out (by rw [halve_len, ML.out]; exact n4) K3.out) #[.int .i64 N, .int .i64 S, .int .i64 M2, .slice b2 n c3, .int .i64 0]
        have BX := below_setRow BB.out (show w.heap.size ≤ w.heap.size + 1 + 1 by omega) #[.int .i64 N, .int .i64 S, .int .i64 M2, .slice b2 n c3, .int .i64 0]
        first | exact ⟨⟨b2, c3, rfl, HX⟩, BX⟩ | exact ⟨⟨b2, ⟨c3, rfl⟩, HX⟩, BX⟩
      · have t1 : decide (S ≤ M) = false := decide_eq_false hS1
        have EA := Lib.hid (show mgA S A1 A2 = M by rw [AH.out, if_neg hS1])
        have EL := Lib.hid (show mgL S A1 A2 l1 l2 = mergeL l1 l2 by rw [LH.out, if_neg hS1])
        have IX := Lib.hid (show (Tryd.prog.info? 30).map (·.size) = some (#[.int .i64 N, .int .i64 S, .int .i64 M, .slice b n c, .int .i64 0] : Array Value).size by kernel_rfl)
        have Ioq := Lib.hid (show (#[.int .i64 N, .int .i64 S, .int .i64 M, .slice b n c, .int .i64 0] : Array Value).all (·.oneCell') = true by simp [Value.oneCell'])
        go_wp2_with (first | (with_reducible refine wpList_store_blk rfl _ _ _ rfl (w.heap.size + 1 + 1) 30 #[.int .i64 0, .int .i64 0, .int .i64 0, .slice none 0 0, .int .i64 0] #[.int .i64 N, .int .i64 S, .int .i64 M, .slice b n c, .int .i64 0] rfl rfl K3.out IX.out rfl Ioq.out rfl ?_) | fail)
        rw [EA.out, EL.out]
        refine bodyPost_ret (results_cell_row rfl _ _ _ 30 _ (0, 0) _ rfl (K3.out.row_ _) Tryd.underlying30 rfl IX.out) rfl ?_
        have HX := HI.out.rowfar (ints_apart HI.out (by rw [ML.out]; exact n4) K3.out) #[.int .i64 N, .int .i64 S, .int .i64 M, .slice b n c, .int .i64 0]
        have BX := below_setRow BB.out (show w.heap.size ≤ w.heap.size + 1 + 1 by omega) #[.int .i64 N, .int .i64 S, .int .i64 M, .slice b n c, .int .i64 0]
        first | exact ⟨⟨b, c, rfl, HX⟩, BX⟩ | exact ⟨⟨b, ⟨c, rfl⟩, HX⟩, BX⟩
end
section
open Go.RowKit Go.Sort
theorem grow_cell3 (w : World) (d : Nat) (os : Array Obj) (b o : Nat) (h : b < w.heap.size) : (grow (redrawn w d) os).cell? ⟨b, o, none⟩ = w.cell? ⟨b, o, none⟩ :=
  (below_regrown w d os).cell (p := ⟨b, o, none⟩) h
theorem below_of_grow3 {W W' : World} {d : Nat} {os : Array Obj} (h : W' = grow (redrawn W d) os) : Below W.heap.size W W' := h ▸ below_regrown W d os
theorem Ok.nat3 {W S A : Int} {l : List Int} (h : Ok W S A l) : ∃ N : Nat, W = (N : Int) ∧ (∃ k : Nat, k ≤ 12 ∧ N = 2 ^ k) ∧ l.length = 4 * N := by
  obtain ⟨k, -, hk⟩ := of_decide_eq_true h.two
  refine ⟨2 ^ k, hk, ⟨k, ?_, rfl⟩, ?_⟩
  · rcases Nat.lt_or_ge 12 k with h1 | h1
    · have h2 := Nat.pow_le_pow_right (n := 2) (by decide) (show 13 ≤ k by omega)
      have h3 : (2 : Nat) ^ 13 = 8192 := by decide
      have := h.w
      omega
    · exact h1
  · have := h.len
    omega
set_option maxRecDepth 100000 in
set_option maxHeartbeats 1000000 in
theorem same_true (W S A : Int) (a1 a2 : Option Addr) (c1 c2 : Nat) (l : List Int) (w : World) (hp1 : IntsA w a1 l) (hp2 : IntsA w a2 l) (hm : l.length ≤ 9223372036854775807) :
    Calls Tryd.prog 13 #[.agg #[.int .i64 W, .int .i64 S, .int .i64 A, .slice a1 l.length c1], .agg #[.int .i64 W, .int .i64 S, .int .i64 A, .slice a2 l.length c2]] w fun e w' => e = .returned (.bool true) ∧ Below w.heap.size w w' := by
  have HP := Lib.hid hp1
  have HQ := Lib.hid hp2
  obtain ⟨n, hn⟩ : ∃ n, l.length = n := ⟨_, rfl⟩
  have HE := Lib.hid hn
  rw [hn] at hm ⊢
  clear hp1 hp2 hn
  go_enter Tryd.func13, Tryd.ntmps13
  go_wp2
  go_loopw [5] (fun u5 wr => ∃ k : Nat, k ≤ n ∧ u5 = .int .i64 k ∧ Hid (Blk wr w.heap.size 24 #[.int .i64 W, .int .i64 S, .int .i64 A, .slice a1 n c1]) ∧ Hid (Blk wr (w.heap.size + 1) 24 #[.int .i64 W, .int .i64 S, .int .i64 A, .slice a2 n c2]) ∧ Hid (Below w.heap.size w wr)) (fun u5 _ => n - (intOf u5).toNat)
  case atStart => exact ⟨0, by omega, rfl, Lib.hid ((Blk.new' w _ _ _ rfl rfl).alloc _), Lib.hid (Blk.new' _ _ _ _ (World.size_alloc _ _) rfl), Lib.hid (by (repeat' (first | (with_reducible exact Below.refl _ _) | (with_reducible assumption) | (with_reducible refine Below.alloc ?_ ?_ _) | (with_reducible refine Below.drew ?_) | (with_reducible refine below_dn ?_) | (with_reducible refine Below.setCell ?_ ?_ _) | (with_reducible exact Nat.le_refl _) | omega | (simp only [World.size_alloc, World.size_setCell, World.size_drew]; omega) | (simp; omega) | (simp; done))))⟩
  case round =>
    obtain ⟨k, hk, rfl, K1, K2, BB⟩ := hrel
    have e3 : wr.cell? ⟨w.heap.size, 3, none⟩ = some (.slice a1 n c1) := K1.out.cell 3
    have e4 : wr.cell? ⟨w.heap.size + 1, 3, none⟩ = some (.slice a2 n c2) := K2.out.cell 3
    by_cases hlt : k < n
    · obtain ⟨b1, f1, rfl, q1⟩ := HP.out.mono BB.out k (by rw [HE.out]; exact hlt)
      obtain ⟨b2, f2, rfl, q2⟩ := HQ.out.mono BB.out k (by rw [HE.out]; exact hlt)
      obtain ⟨x, hx⟩ : ∃ x, l.getD k 0 = x := ⟨_, rfl⟩
      rw [hx] at q1 q2
      clear hx
      go_wp2
      go_quiet (fail)
      go_wp2
      go_roundw
      case rel => exact ⟨k + 1, by omega, by go_num, Lib.hid (K1.out.drewN _), Lib.hid (K2.out.drewN _), Lib.hid (below_dn BB.out)⟩
      case measure => simp [intOf]; omega
    · go_wp2
      go_ret
      exact ⟨rfl, BB.out⟩
theorem IntsA.none_ (w : World) : IntsA w none [] := fun k hk => absurd hk (by simp)
theorem new_both (W S : Int) (b1 : -9223372036854775808 ≤ W) (b2 : W ≤ 9223372036854775807) : ∃ (W' S' e : Int) (l : List Int), l.length ≤ 1000000 ∧
    (∀ X, Calls Tryd.prog 10 #[.int .i64 W, .int .i64 S] X fun r w' => (∃ a c, r = .returned (.tuple #[.agg #[.int .i64 W', .int .i64 S', .int .i64 0, .slice a l.length c], .int .i64 e]) ∧ IntsA w' a l) ∧ Below X.heap.size X w') ∧
    (∀ X, Calls Tryd.prog 11 #[.int .i64 W, .int .i64 S] X fun r w' => (∃ a c, r = .returned (.agg #[.int .i64 W', .int .i64 S', .int .i64 0, .slice a l.length c, .int .i64 e]) ∧ IntsA w' a l) ∧ Below X.heap.size X w') := by
  by_cases h : pw W = false ∨ S < 1
  · refine ⟨0, 0, 1, [], by simp, fun X => (new_arg W S X b1 b2 h).mono ?_, fun X => (newref_arg W S X b1 b2 h).mono ?_⟩
    · rintro r w' ⟨rfl, hb⟩; exact ⟨⟨none, 0, rfl, IntsA.none_ _⟩, hb⟩
    · rintro r w' ⟨rfl, hb⟩; exact ⟨⟨none, 0, rfl, IntsA.none_ _⟩, hb⟩
  · have hp : pw W = true := by cases hq : pw W; exact absurd (Or.inl hq) h; rfl
    have hS : 1 ≤ S := by have : ¬ S < 1 := fun q => h (Or.inr q); omega
    by_cases h2 : 4096 < W ∨ 1048576 < S
    · refine ⟨0, 0, 2, [], by simp, fun X => (new_limit W S X b1 b2 hp hS h2).mono ?_, fun X => (newref_limit W S X b1 b2 hp hS h2).mono ?_⟩
      · rintro r w' ⟨rfl, hb⟩; exact ⟨⟨none, 0, rfl, IntsA.none_ _⟩, hb⟩
      · rintro r w' ⟨rfl, hb⟩; exact ⟨⟨none, 0, rfl, IntsA.none_ _⟩, hb⟩
    · have h3 : W ≤ 4096 := by omega
      have h4 : S ≤ 1048576 := by omega
      have p0 := pw_pos hp
      obtain ⟨n, hn⟩ : ∃ n : Nat, (n : Int) = 4 * W := ⟨(4 * W).toNat, by omega⟩
      refine ⟨W, S, 0, List.replicate n 0, by rw [List.length_replicate]; omega, fun X => (new_ok W S X b1 b2 hp hS h3 h4 n hn).mono ?_, fun X => (newref_ok W S X b1 b2 hp hS h3 h4 n hn).mono ?_⟩
      · rintro r w' ⟨⟨g, rfl, hr⟩, hb⟩; exact ⟨⟨some ⟨g, 0, none⟩, n, by rw [List.length_replicate], hr.ints⟩, hb⟩
      · rintro r w' ⟨⟨g, rfl, hr⟩, hb⟩; exact ⟨⟨some ⟨g, 0, none⟩, n, by rw [List.length_replicate], hr.ints⟩, hb⟩
end
section
open Go.RowKit
theorem mg_len (S A1 A2 : Int) (l1 l2 : List Int) (h : l1.length = l2.length) : (mgL S A1 A2 l1 l2).length = l1.length := by
  unfold mgL; split
  · rw [halve_len, mergeL_len _ _ h]
  · rw [mergeL_len _ _ h]
theorem mgA_comm (S A1 A2 : Int) : mgA S A2 A1 = mgA S A1 A2 := by unfold mgA; rw [Int.add_comm]
theorem mgL_comm (S A1 A2 : Int) (l1 l2 : List Int) : mgL S A2 A1 l2 l1 = mgL S A1 A2 l1 l2 := by unfold mgL; rw [Int.add_comm, mergeL_comm]
theorem merge_both (W1 S1 A1 W2 S2 A2 : Int) (a1 a2 : Option Addr) (c1 c2 : Nat) (l1 l2 : List Int) (ok1 : Ok W1 S1 A1 l1) (ok2 : Ok W2 S2 A2 l2) : ∃ (P Q R e : Int) (l : List Int), l.length ≤ 1000000 ∧
    (∀ X, IntsA X a1 l1 → IntsA X a2 l2 → Calls Tryd.prog 24 #[.agg #[.int .i64 W1, .int .i64 S1, .int .i64 A1, .slice a1 l1.length c1], .agg #[.int .i64 W2, .int .i64 S2, .int .i64 A2, .slice a2 l2.length c2]] X fun r w' => (∃ a c, r = .returned (.tuple #[.agg #[.int .i64 P, .int .i64 Q, .int .i64 R, .slice a l.length c], .int .i64 e]) ∧ IntsA w' a l) ∧ Below X.heap.size X w') ∧
    (∀ X, IntsA X a1 l1 → IntsA X a2 l2 → Calls Tryd.prog 24 #[.agg #[.int .i64 W2, .int .i64 S2, .int .i64 A2, .slice a2 l2.length c2], .agg #[.int .i64 W1, .int .i64 S1, .int .i64 A1, .slice a1 l1.length c1]] X fun r w' => (∃ a c, r = .returned (.tuple #[.agg #[.int .i64 P, .int .i64 Q, .int .i64 R, .slice a l.length c], .int .i64 e]) ∧ IntsA w' a l) ∧ Below X.heap.size X w') ∧
    (∀ X, IntsA X a1 l1 → IntsA X a2 l2 → Calls Tryd.prog 25 #[.agg #[.int .i64 W1, .int .i64 S1, .int .i64 A1, .slice a1 l1.length c1], .agg #[.int .i64 W2, .int .i64 S2, .int .i64 A2, .slice a2 l2.length c2]] X fun r w' => (∃ a c, r = .returned (.agg #[.int .i64 P, .int .i64 Q, .int .i64 R, .slice a l.length c, .int .i64 e]) ∧ IntsA w' a l) ∧ Below X.heap.size X w') := by
  by_cases h : W1 = W2 ∧ S1 = S2
  · obtain ⟨rfl, rfl⟩ := h
    obtain ⟨N, rfl, ⟨k, hk, hN⟩, hl1⟩ := ok1.nat3
    have hl2 : l2.length = 4 * N := by have := ok2.len; omega
    have N0 : 0 < N := by have := ok1.pos; omega
    have N4 : N ≤ 4096 := by have := ok1.w; omega
    have e12 : l2.length = l1.length := by omega
    have eL := mg_len S1 A1 A2 l1 l2 e12.symm
    refine ⟨N, S1, mgA S1 A1 A2, 0, mgL S1 A1 A2 l1 l2, by omega, fun X p q => ?_, fun X p q => ?_, fun X p q => ?_⟩
    · have H := merge_any N S1 A1 A2 a1 a2 c1 c2 l1 l2 X p q hl1 hl2 N0 N4 ok1.all ok2.all ok1.a0 ok1.a1 ok2.a0 ok2.a1 ok1.s2
      rw [e12, eL]
      refine H.mono ?_
      rintro r w' ⟨⟨g, c, rfl, hr⟩, hb⟩
      exact ⟨⟨_, c, rfl, hr.ints⟩, hb⟩
    · have H := merge_any N S1 A2 A1 a2 a1 c2 c1 l2 l1 X q p hl2 hl1 N0 N4 ok2.all ok1.all ok2.a0 ok2.a1 ok1.a0 ok1.a1 ok1.s2
      rw [mgA_comm, mgL_comm, e12] at H
      rw [e12, eL]
      refine H.mono ?_
      rintro r w' ⟨⟨g, c, rfl, hr⟩, hb⟩
      exact ⟨⟨_, c, rfl, hr.ints⟩, hb⟩
    · have H := mergeref_any N S1 A1 A2 a1 a2 c1 c2 l1 l2 X p q hl1 hl2 N0 N4 ok1.all ok2.all ok1.a0 ok1.a1 ok2.a0 ok2.a1 ok1.s2
      rw [e12, eL]
      refine H.mono ?_
      rintro r w' ⟨⟨b, c, rfl, hr⟩, hb⟩
      exact ⟨⟨b, c, rfl, hr⟩, hb⟩
  · have hne : W1 ≠ W2 ∨ S1 ≠ S2 := by
      by_cases hw : W1 = W2
      · exact Or.inr (fun hs => h ⟨hw, hs⟩)
      · exact Or.inl hw
    have hne2 : W2 ≠ W1 ∨ S2 ≠ S1 := by rcases hne with q | q; exact Or.inl q.symm; exact Or.inr q.symm
    refine ⟨0, 0, 0, 1, [], by simp, fun X p q => (merge_no _ _ _ _ _ _ _ _ X hne).mono ?_, fun X p q => (merge_no _ _ _ _ _ _ _ _ X hne2).mono ?_, fun X p q => (mergeref_no _ _ _ _ _ _ _ _ X hne).mono ?_⟩
    all_goals
      rintro r w' ⟨rfl, hb⟩
      exact ⟨⟨none, 0, rfl, IntsA.none_ _⟩, hb⟩
set_option maxRecDepth 100000 in
set_option maxHeartbeats 12000000 in
theorem merges_ok (W1 S1 A1 W2 S2 A2 : Int) (a1 a2 : Option Addr) (c1 c2 : Nat) (l1 l2 : List Int) (w : World) (hp1 : IntsA w a1 l1) (hp2 : IntsA w a2 l2) (h1 : l1.length ≤ 300) (h2 : l2.length ≤ 300)
    (wa1 : -9223372036854775808 ≤ W1) (wb1 : W1 ≤ 9223372036854775807) (wa2 : -9223372036854775808 ≤ W2) (wb2 : W2 ≤ 9223372036854775807) (ok1 : Ok W1 S1 A1 l1) (ok2 : Ok W2 S2 A2 l2) (hla : LaidC w) :
    Calls Tryd.prog 5 #[.agg #[.int .i64 W1, .int .i64 S1, .int .i64 A1, .slice a1 l1.length c1], .agg #[.int .i64 W2, .int .i64 S2, .int .i64 A2, .slice a2 l2.length c2]] w fun e w' => e = .returned (.bool true) ∧ Below w.heap.size w w' := by
  obtain ⟨P, Q, R, e, l, hlm, hm1, hm2, hm3⟩ := merge_both W1 S1 A1 W2 S2 A2 a1 a2 c1 c2 l1 l2 ok1 ok2
  have LA := Lib.hid hla
  have HP := Lib.hid hp1
  have HQ := Lib.hid hp2
  have N1 := Lib.hid hm1
  have N2 := Lib.hid hm2
  have N3 := Lib.hid hm3
  have OK1 := Lib.hid ok1
  have OK2 := Lib.hid ok2
  have hl0 : 0 < l1.length := by have := ok1.len; have := ok1.pos; omega
  have hA0 := ok1.a0
  have hA1 : A1 ≤ 9223372036854775807 := by have := ok1.a1; have := ok1.s2; omega
  have VR1 := Lib.hid (fun (X : World) (h : IntsA X a1 l1) => validref_any W1 S1 A1 a1 c1 l1 X h (by omega) wa1 wb1)
  have VR2 := Lib.hid (fun (X : World) (h : IntsA X a2 l2) => validref_any W2 S2 A2 a2 c2 l2 X h (by omega) wa2 wb2)
  have SA := Lib.hid (fun (X : World) (h : LaidC X) => sane X h)
  have SM := Lib.hid (fun (Y : World) (x1 x2 : Option Addr) (y1 y2 : Nat) (h1 : IntsA Y x1 l) (h2 : IntsA Y x2 l) => same_true P Q R x1 x2 y1 y2 l Y h1 h2 (by omega))
  have SH := Lib.hid (fun (Y : World) (x1 x2 : Option Addr) (y1 y2 : Nat) (q1 : IntsA Y x1 (halve l1)) (q2 : IntsA Y x2 (halve l1)) => same_true W1 S1 (A1 / 2) x1 x2 y1 y2 (halve l1) Y q1 q2 (by rw [halve_len]; omega))
  have HV := Lib.hid (fun (Y : World) (h : IntsA Y a1 l1) => halve_any W1 S1 A1 a1 c1 l1 Y h (by omega) ok1.all hl0 hA0 hA1)
  have HW := Lib.hid (fun (Y : World) (h : IntsA Y a1 l1) => halveref_any W1 S1 A1 a1 c1 l1 Y h (by omega) ok1.all hA0 hA1)
  obtain ⟨m, hml⟩ : ∃ m, l.length = m := ⟨_, rfl⟩
  obtain ⟨n1, hn1⟩ : ∃ n, l1.length = n := ⟨_, rfl⟩
  obtain ⟨n2, hn2⟩ : ∃ n, l2.length = n := ⟨_, rfl⟩
  obtain ⟨AH, hAH⟩ : ∃ x, A1 / 2 = x := ⟨_, rfl⟩
  rw [hAH] at SH HV HW
  rw [halve_len] at SH
  rw [hml, hn1, hn2] at N1 N2 N3
  rw [hml] at SM
  rw [hn1] at VR1 SH HV HW h1 ⊢
  rw [hn2] at VR2 h2 ⊢
  have t1 : decide ((300 : Int) < (n1 : Int)) = false := decide_eq_false (by omega)
  have t2 : decide ((300 : Int) < (n2 : Int)) = false := decide_eq_false (by omega)
  clear hm1 hm2 hm3 ok1 ok2 hla hp1 hp2 hml hn1 hn2 hlm hl0 hA0 hA1 hAH
  go_enter Tryd.func5, Tryd.ntmps5
  go_wp2_with fail
  refine (VR1.out _ (HP.out.mono (by (repeat' (first | (with_reducible exact Below.refl _ _) | (with_reducible assumption) | (with_reducible refine Below.alloc ?_ ?_ _) | (with_reducible refine Below.drew ?_) | (with_reducible refine below_dn ?_) | (with_reducible refine Below.setCell ?_ ?_ _) | (with_reducible exact Nat.le_refl _) | omega | (simp only [World.size_alloc, World.size_setCell, World.size_drew]; omega) | (simp; omega) | (simp; done)))))).mono ?_
  rintro r w1 ⟨⟨b, rfl, hb0⟩, hb⟩
  obtain rfl : b = true := hb0.2 OK1.out
  have KS := Lib.hid (show Blk w1 w.heap.size 24 #[.int .i64 W1, .int .i64 S1, .int .i64 A1, .slice a1 n1 c1] from ((Blk.new' w _ _ _ rfl rfl).alloc _).below hb (by simp; omega))
  have KO := Lib.hid (show Blk w1 (w.heap.size + 1) 24 #[.int .i64 W2, .int .i64 S2, .int .i64 A2, .slice a2 n2 c2] from (Blk.new' _ _ _ _ (World.size_alloc _ _) rfl).below hb (by simp))
  have B := Lib.hid (bt (show Below w.heap.size w ((w.alloc (.cells #[.int .i64 W1, .int .i64 S1, .int .i64 A1, .slice a1 n1 c1] 24)).alloc (.cells #[.int .i64 W2, .int .i64 S2, .int .i64 A2, .slice a2 n2 c2] 24)) by (repeat' (first | (with_reducible exact Below.refl _ _) | (with_reducible assumption) | (with_reducible refine Below.alloc ?_ ?_ _) | (with_reducible refine Below.drew ?_) | (with_reducible refine below_dn ?_) | (with_reducible refine Below.setCell ?_ ?_ _) | (with_reducible exact Nat.le_refl _) | omega | (simp only [World.size_alloc, World.size_setCell, World.size_drew]; omega) | (simp; omega) | (simp; done)))) hb)
  clear hb hb0 VR1
  have d0 := KS.out.cell 0
  change _ = some (Value.int .i64 W1) at d0
  have d1 := KS.out.cell 1
  change _ = some (Value.int .i64 S1) at d1
  have d2 := KS.out.cell 2
  change _ = some (Value.int .i64 A1) at d2
  have d3 := KS.out.cell 3
  change _ = some (Value.slice a1 n1 c1) at d3
  have h0 := KO.out.cell 0
  change _ = some (Value.int .i64 W2) at h0
  have h1 := KO.out.cell 1
  change _ = some (Value.int .i64 S2) at h1
  have h2 := KO.out.cell 2
  change _ = some (Value.int .i64 A2) at h2
  have h3 := KO.out.cell 3
  change _ = some (Value.slice a2 n2 c2) at h3
  go_wp2_with fail
  refine (VR2.out _ (HQ.out.mono B.out)).mono ?_
  rintro r w2 ⟨⟨b, rfl, hb0⟩, hb⟩
  obtain rfl : b = true := hb0.2 OK2.out
  replace KS := Lib.hid (KS.out.below hb KS.out.lt)
  replace KO := Lib.hid (KO.out.below hb KO.out.lt)
  replace B := Lib.hid (bt B.out hb)
  clear hb hb0 VR2 d0 d1 d2 d3 h0 h1 h2 h3
  have d0 := KS.out.cell 0
  change _ = some (Value.int .i64 W1) at d0
  have d1 := KS.out.cell 1
  change _ = some (Value.int .i64 S1) at d1
  have d2 := KS.out.cell 2
  change _ = some (Value.int .i64 A1) at d2
  have d3 := KS.out.cell 3
  change _ = some (Value.slice a1 n1 c1) at d3
  have h0 := KO.out.cell 0
  change _ = some (Value.int .i64 W2) at h0
  have h1 := KO.out.cell 1
  change _ = some (Value.int .i64 S2) at h1
  have h2 := KO.out.cell 2
  change _ = some (Value.int .i64 A2) at h2
  have h3 := KO.out.cell 3
  change _ = some (Value.slice a2 n2 c2) at h3
  go_wp2_with fail
  refine (N1.out _ (HP.out.mono B.out) (HQ.out.mono B.out)).mono ?_
  rintro r w3 ⟨⟨a5, c5, rfl, hi⟩, hb⟩
  replace KS := Lib.hid ((KS.out.below hb KS.out.lt).alloc (.cells #[.int .i64 P, .int .i64 Q, .int .i64 R, .slice a5 m c5] 24))
  replace KO := Lib.hid ((KO.out.below hb KO.out.lt).alloc (.cells #[.int .i64 P, .int .i64 Q, .int .i64 R, .slice a5 m c5] 24))
  replace B := Lib.hid (let B' := bt B.out hb; B'.alloc B'.size (.cells #[.int .i64 P, .int .i64 Q, .int .i64 R, .slice a5 m c5] 24))
  have I5 := Lib.hid (hi.mono (Below.alloc (Below.refl _ w3) (Nat.le_refl _) (.cells #[.int .i64 P, .int .i64 Q, .int .i64 R, .slice a5 m c5] 24)))
  obtain ⟨s5, hs5⟩ : ∃ s, w3.heap.size = s := ⟨_, rfl⟩
  have K5 := Lib.hid (show Blk (w3.alloc (.cells #[.int .i64 P, .int .i64 Q, .int .i64 R, .slice a5 m c5] 24)) s5 24 #[.int .i64 P, .int .i64 Q, .int .i64 R, .slice a5 m c5] from Blk.new' w3 _ _ _ hs5 rfl)
  clear hb hi N1 d0 d1 d2 d3 h0 h1 h2 h3
  have d0 := KS.out.cell 0
  change _ = some (Value.int .i64 W1) at d0
  have d1 := KS.out.cell 1
  change _ = some (Value.int .i64 S1) at d1
  have d2 := KS.out.cell 2
  change _ = some (Value.int .i64 A1) at d2
  have d3 := KS.out.cell 3
  change _ = some (Value.slice a1 n1 c1) at d3
  have h0 := KO.out.cell 0
  change _ = some (Value.int .i64 W2) at h0
  have h1 := KO.out.cell 1
  change _ = some (Value.int .i64 S2) at h1
  have h2 := KO.out.cell 2
  change _ = some (Value.int .i64 A2) at h2
  have h3 := KO.out.cell 3
  change _ = some (Value.slice a2 n2 c2) at h3
  go_wp2_with fail
  refine (N2.out _ (HP.out.mono B.out) (HQ.out.mono B.out)).mono ?_
  rintro r w4 ⟨⟨a7, c7, rfl, hi⟩, hb⟩
  replace KS := Lib.hid ((KS.out.below hb KS.out.lt).alloc (.cells #[.int .i64 P, .int .i64 Q, .int .i64 R, .slice a7 m c7] 24))
  replace KO := Lib.hid ((KO.out.below hb KO.out.lt).alloc (.cells #[.int .i64 P, .int .i64 Q, .int .i64 R, .slice a7 m c7] 24))
  replace K5 := Lib.hid ((K5.out.below hb K5.out.lt).alloc (.cells #[.int .i64 P, .int .i64 Q, .int .i64 R, .slice a7 m c7] 24))
  replace I5 := Lib.hid ((I5.out.mono hb).mono (Below.alloc (Below.refl _ w4) (Nat.le_refl _) (.cells #[.int .i64 P, .int .i64 Q, .int .i64 R, .slice a7 m c7] 24)))
  replace B := Lib.hid (let B' := bt B.out hb; B'.alloc B'.size (.cells #[.int .i64 P, .int .i64 Q, .int .i64 R, .slice a7 m c7] 24))
  have I7 := Lib.hid (hi.mono (Below.alloc (Below.refl _ w4) (Nat.le_refl _) (.cells #[.int .i64 P, .int .i64 Q, .int .i64 R, .slice a7 m c7] 24)))
  obtain ⟨s7, hs7⟩ : ∃ s, w4.heap.size = s := ⟨_, rfl⟩
  have K7 := Lib.hid (show Blk (w4.alloc (.cells #[.int .i64 P, .int .i64 Q, .int .i64 R, .slice a7 m c7] 24)) s7 24 #[.int .i64 P, .int .i64 Q, .int .i64 R, .slice a7 m c7] from Blk.new' w4 _ _ _ hs7 rfl)
  clear hb hi N2 d0 d1 d2 d3 h0 h1 h2 h3
  have d0 := KS.out.cell 0
  change _ = some (Value.int .i64 W1) at d0
  have d1 := KS.out.cell 1
  change _ = some (Value.int .i64 S1) at d1
  have d2 := KS.out.cell 2
  change _ = some (Value.int .i64 A1) at d2
  have d3 := KS.out.cell 3
  change _ = some (Value.slice a1 n1 c1) at d3
  have h0 := KO.out.cell 0
  change _ = some (Value.int .i64 W2) at h0
  have h1 := KO.out.cell 1
  change _ = some (Value.int .i64 S2) at h1
  have h2 := KO.out.cell 2
  change _ = some (Value.int .i64 A2) at h2
  have h3 := KO.out.cell 3
  change _ = some (Value.slice a2 n2 c2) at h3
  go_wp2_with fail
  refine (N3.out _ (HP.out.mono B.out) (HQ.out.mono B.out)).mono ?_
  rintro r w5 ⟨⟨a9, c9, rfl, hi⟩, hb⟩
  replace KS := Lib.hid ((KS.out.below hb KS.out.lt).alloc (.cells #[.int .i64 P, .int .i64 Q, .int .i64 R, .slice a9 m c9, .int .i64 e] 30))
  replace K5 := Lib.hid ((K5.out.below hb K5.out.lt).alloc (.cells #[.int .i64 P, .int .i64 Q, .int .i64 R, .slice a9 m c9, .int .i64 e] 30))
  replace K7 := Lib.hid ((K7.out.below hb K7.out.lt).alloc (.cells #[.int .i64 P, .int .i64 Q, .int .i64 R, .slice a9 m c9, .int .i64 e] 30))
  replace I5 := Lib.hid ((I5.out.mono hb).mono (Below.alloc (Below.refl _ w5) (Nat.le_refl _) (.cells #[.int .i64 P, .int .i64 Q, .int .i64 R, .slice a9 m c9, .int .i64 e] 30)))
  replace I7 := Lib.hid ((I7.out.mono hb).mono (Below.alloc (Below.refl _ w5) (Nat.le_refl _) (.cells #[.int .i64 P, .int .i64 Q, .int .i64 R, .slice a9 m c9, .int .i64 e] 30)))
  replace B := Lib.hid (let B' := bt B.out hb; B'.alloc B'.size (.cells #[.int .i64 P, .int .i64 Q, .int .i64 R, .slice a9 m c9, .int .i64 e] 30))
  have I9 := Lib.hid (hi.mono (Below.alloc (Below.refl _ w5) (Nat.le_refl _) (.cells #[.int .i64 P, .int .i64 Q, .int .i64 R, .slice a9 m c9, .int .i64 e] 30)))
  obtain ⟨s9, hs9⟩ : ∃ s, w5.heap.size = s := ⟨_, rfl⟩
  have K9 := Lib.hid (show Blk (w5.alloc (.cells #[.int .i64 P, .int .i64 Q, .int .i64 R, .slice a9 m c9, .int .i64 e] 30)) s9 30 #[.int .i64 P, .int .i64 Q, .int .i64 R, .slice a9 m c9, .int .i64 e] from Blk.new' w5 _ _ _ hs9 rfl)
  clear hb hi N3 d0 d1 d2 d3 h0 h1 h2 h3 KO
  go_wp2_with fail
  generalize hw6 : World.alloc w5 (.cells #[.int .i64 P, .int .i64 Q, .int .i64 R, .slice a9 m c9, .int .i64 e] 30) = w6 at KS K5 K7 K9 I5 I7 I9 B ⊢
  clear hw6 hs9 hs7 hs5
  replace KS := Lib.hid KS.out.drew
  replace K5 := Lib.hid K5.out.drew
  replace K7 := Lib.hid K7.out.drew
  replace K9 := Lib.hid K9.out.drew
  replace B := Lib.hid (Below.drew B.out)
  replace I5 := Lib.hid (I5.out.mono (Below.drew (Below.refl _ w6)))
  replace I7 := Lib.hid (I7.out.mono (Below.drew (Below.refl _ w6)))
  replace I9 := Lib.hid (I9.out.mono (Below.drew (Below.refl _ w6)))
  go_region_held3 (fun X => X.cell? ⟨w.heap.size, 0, none⟩ = some (Value.int .i64 W1) ∧ X.cell? ⟨w.heap.size, 1, none⟩ = some (Value.int .i64 S1) ∧ X.cell? ⟨w.heap.size, 2, none⟩ = some (Value.int .i64 A1) ∧ X.cell? ⟨w.heap.size, 3, none⟩ = some (Value.slice a1 n1 c1) ∧ X.cell? ⟨s5, 0, none⟩ = some (Value.int .i64 P) ∧ X.cell? ⟨s5, 1, none⟩ = some (Value.int .i64 Q) ∧ X.cell? ⟨s5, 2, none⟩ = some (Value.int .i64 R) ∧ X.cell? ⟨s5, 3, none⟩ = some (Value.slice a5 m c5) ∧ X.cell? ⟨s7, 0, none⟩ = some (Value.int .i64 P) ∧ X.cell? ⟨s7, 1, none⟩ = some (Value.int .i64 Q) ∧ X.cell? ⟨s7, 2, none⟩ = some (Value.int .i64 R) ∧ X.cell? ⟨s7, 3, none⟩ = some (Value.slice a7 m c7) ∧ X.cell? ⟨s9, 0, none⟩ = some (Value.int .i64 P) ∧ X.cell? ⟨s9, 1, none⟩ = some (Value.int .i64 Q) ∧ X.cell? ⟨s9, 2, none⟩ = some (Value.int .i64 R) ∧ X.cell? ⟨s9, 3, none⟩ = some (Value.slice a9 m c9) ∧ X.cell? ⟨s9, 4, none⟩ = some (Value.int .i64 e)) (exact ⟨KS.out.cell 0, KS.out.cell 1, KS.out.cell 2, KS.out.cell 3, K5.out.cell 0, K5.out.cell 1, K5.out.cell 2, K5.out.cell 3, K7.out.cell 0, K7.out.cell 1, K7.out.cell 2, K7.out.cell 3, K9.out.cell 0, K9.out.cell 1, K9.out.cell 2, K9.out.cell 3, K9.out.cell 4⟩) (first | (go_at_call 9; with_reducible refine (SA.out _ (LA.out.mono B.out)).mono ?_; rintro r wa ⟨rfl, hb⟩; replace KS := Lib.hid (KS.out.below hb KS.out.lt); replace K5 := Lib.hid (K5.out.below hb K5.out.lt); replace K7 := Lib.hid (K7.out.below hb K7.out.lt); replace K9 := Lib.hid (K9.out.below hb K9.out.lt); replace I5 := Lib.hid (I5.out.mono hb); replace I7 := Lib.hid (I7.out.mono hb); replace I9 := Lib.hid (I9.out.mono hb); replace B := Lib.hid (bt B.out hb); clear hb) | (go_at_call 13; with_reducible refine (SM.out _ _ _ _ _ I5.out I9.out).mono ?_; rintro r wb ⟨rfl, hb⟩; replace KS := Lib.hid (KS.out.below hb KS.out.lt); replace K5 := Lib.hid (K5.out.below hb K5.out.lt); replace K7 := Lib.hid (K7.out.below hb K7.out.lt); replace K9 := Lib.hid (K9.out.below hb K9.out.lt); replace I5 := Lib.hid (I5.out.mono hb); replace I7 := Lib.hid (I7.out.mono hb); replace I9 := Lib.hid (I9.out.mono hb); replace B := Lib.hid (bt B.out hb); clear hb) | (go_at_call 13; with_reducible refine (SM.out _ _ _ _ _ I5.out I7.out).mono ?_; rintro r wc ⟨rfl, hb⟩; replace KS := Lib.hid (KS.out.below hb KS.out.lt); replace K5 := Lib.hid (K5.out.below hb K5.out.lt); replace K7 := Lib.hid (K7.out.below hb K7.out.lt); replace K9 := Lib.hid (K9.out.below hb K9.out.lt); replace I5 := Lib.hid (I5.out.mono hb); replace I7 := Lib.hid (I7.out.mono hb); replace I9 := Lib.hid (I9.out.mono hb); replace B := Lib.hid (bt B.out hb); clear hb) | (go_at_call 26; with_reducible refine (HV.out _ (HP.out.mono B.out)).mono ?_; rintro r wd ⟨⟨gh, ch, rfl, hch, hgh, hrh⟩, hb⟩; replace KS := Lib.hid (KS.out.below hb KS.out.lt); replace K5 := Lib.hid (K5.out.below hb K5.out.lt); replace K7 := Lib.hid (K7.out.below hb K7.out.lt); replace K9 := Lib.hid (K9.out.below hb K9.out.lt); replace I5 := Lib.hid (I5.out.mono hb); replace I7 := Lib.hid (I7.out.mono hb); replace I9 := Lib.hid (I9.out.mono hb); replace B := Lib.hid (bt B.out hb); clear hb hch hgh; have IH := Lib.hid hrh.ints; clear hrh) | (go_at_call 27; with_reducible refine (HW.out _ (HP.out.mono B.out)).mono ?_; rintro r we ⟨⟨gk, ck, rfl, hck, hik⟩, hb⟩; replace KS := Lib.hid (KS.out.below hb KS.out.lt); replace K5 := Lib.hid (K5.out.below hb K5.out.lt); replace K7 := Lib.hid (K7.out.below hb K7.out.lt); replace K9 := Lib.hid (K9.out.below hb K9.out.lt); replace I5 := Lib.hid (I5.out.mono hb); replace I7 := Lib.hid (I7.out.mono hb); replace I9 := Lib.hid (I9.out.mono hb); replace B := Lib.hid (bt B.out hb); replace IH := Lib.hid (IH.out.mono hb); clear hb hck; have IK := Lib.hid hik; clear hik) | (go_at_call 13; with_reducible refine (SH.out _ _ _ _ _ IH.out IK.out).mono ?_; rintro r wf ⟨rfl, hb⟩; replace KS := Lib.hid (KS.out.below hb KS.out.lt); replace K5 := Lib.hid (K5.out.below hb K5.out.lt); replace K7 := Lib.hid (K7.out.below hb K7.out.lt); replace K9 := Lib.hid (K9.out.below hb K9.out.lt); replace I5 := Lib.hid (I5.out.mono hb); replace I7 := Lib.hid (I7.out.mono hb); replace I9 := Lib.hid (I9.out.mono hb); replace B := Lib.hid (bt B.out hb); clear hb))
  go_wp2_with fail
  go_ret
  exact ⟨rfl, B.out⟩
end
section
open Go.RowKit
set_option maxRecDepth 100000 in
set_option maxHeartbeats 2000000 in
theorem merges_law (W1 S1 A1 W2 S2 A2 : Int) (a1 a2 : Option Addr) (c1 c2 : Nat) (l1 l2 : List Int) (w : World) (hp1 : IntsA w a1 l1) (hp2 : IntsA w a2 l2) (hm1 : l1.length ≤ 9223372036854775807) (hm2 : l2.length ≤ 9223372036854775807)
    (wa1 : -9223372036854775808 ≤ W1) (wb1 : W1 ≤ 9223372036854775807) (wa2 : -9223372036854775808 ≤ W2) (wb2 : W2 ≤ 9223372036854775807) (hla : LaidC w) :
    Calls Tryd.prog 5 #[.agg #[.int .i64 W1, .int .i64 S1, .int .i64 A1, .slice a1 l1.length c1], .agg #[.int .i64 W2, .int .i64 S2, .int .i64 A2, .slice a2 l2.length c2]] w fun e w' => e = .returned (.bool true) ∧ Below w.heap.size w w' := by
  by_cases hall : l1.length ≤ 300 ∧ l2.length ≤ 300 ∧ Ok W1 S1 A1 l1 ∧ Ok W2 S2 A2 l2
  · exact merges_ok W1 S1 A1 W2 S2 A2 a1 a2 c1 c2 l1 l2 w hp1 hp2 hall.1 hall.2.1 wa1 wb1 wa2 wb2 hall.2.2.1 hall.2.2.2 hla
  · have LA := Lib.hid hla
    have HP := Lib.hid hp1
    have HQ := Lib.hid hp2
    have VR1 := Lib.hid (fun (X : World) (h : IntsA X a1 l1) => validref_any W1 S1 A1 a1 c1 l1 X h hm1 wa1 wb1)
    have VR2 := Lib.hid (fun (X : World) (h : IntsA X a2 l2) => validref_any W2 S2 A2 a2 c2 l2 X h hm2 wa2 wb2)
    have SA := Lib.hid (fun (X : World) (h : LaidC X) => sane X h)
    obtain ⟨n1, hn1⟩ : ∃ n, l1.length = n := ⟨_, rfl⟩
    obtain ⟨n2, hn2⟩ : ∃ n, l2.length = n := ⟨_, rfl⟩
    rw [hn1] at VR1 hm1 hall ⊢
    rw [hn2] at VR2 hm2 hall ⊢
    have G0 := Lib.hid (show Below w.heap.size w ((w.alloc (.cells #[.int .i64 W1, .int .i64 S1, .int .i64 A1, .slice a1 n1 c1] 24)).alloc (.cells #[.int .i64 W2, .int .i64 S2, .int .i64 A2, .slice a2 n2 c2] 24)) by (repeat' (first | (with_reducible exact Below.refl _ _) | (with_reducible assumption) | (with_reducible refine Below.alloc ?_ ?_ _) | (with_reducible refine Below.drew ?_) | (with_reducible refine below_dn ?_) | (with_reducible refine Below.setCell ?_ ?_ _) | (with_reducible exact Nat.le_refl _) | omega | (simp only [World.size_alloc, World.size_setCell, World.size_drew]; omega) | (simp; omega) | (simp; done))))
    clear hla hp1 hp2 hn1 hn2 wa1 wb1 wa2 wb2
    by_cases h1 : n1 ≤ 300
    · have t1 : decide ((300 : Int) < (n1 : Int)) = false := decide_eq_false (by omega)
      by_cases h2 : n2 ≤ 300
      · have t2 : decide ((300 : Int) < (n2 : Int)) = false := decide_eq_false (by omega)
        by_cases ok1 : Ok W1 S1 A1 l1
        · have OK2 := Lib.hid (show ¬ Ok W2 S2 A2 l2 from fun h => hall ⟨h1, h2, ok1, h⟩)
          have OK1 := Lib.hid ok1
          clear hall ok1
          go_enter Tryd.func5, Tryd.ntmps5
          go_wp2_with fail
          refine (VR1.out _ (HP.out.mono G0.out)).mono ?_
          rintro e w1 ⟨⟨b, rfl, hb0⟩, hb⟩
          obtain rfl : b = true := hb0.2 OK1.out
          have KO := Lib.hid (show Blk w1 (w.heap.size + 1) 24 #[.int .i64 W2, .int .i64 S2, .int .i64 A2, .slice a2 n2 c2] from (Blk.new' _ _ _ _ (World.size_alloc _ _) rfl).below hb (by simp))
          have B := Lib.hid (bt G0.out hb)
          clear hb hb0 VR1
          have h0 := KO.out.cell 0
          change _ = some (Value.int .i64 W2) at h0
          have h1 := KO.out.cell 1
          change _ = some (Value.int .i64 S2) at h1
          have h2 := KO.out.cell 2
          change _ = some (Value.int .i64 A2) at h2
          have h3 := KO.out.cell 3
          change _ = some (Value.slice a2 n2 c2) at h3
          go_wp2_with fail
          refine (VR2.out _ (HQ.out.mono B.out)).mono ?_
          rintro e w2 ⟨⟨b, rfl, hb0⟩, hb⟩
          obtain rfl : b = false := by
            cases b
            · rfl
            · exact absurd (hb0.1 rfl) OK2.out
          replace B := Lib.hid (bt B.out hb)
          clear hb hb0 VR2 h0 h1 h2 h3
          go_wp2_with fail
          refine (SA.out _ (LA.out.mono B.out)).mono ?_
          rintro e w9 ⟨rfl, hb⟩
          replace B := Lib.hid (bt B.out hb)
          clear hb
          go_wp2_with fail
          go_ret
          exact ⟨rfl, B.out⟩
        · have OK1 := Lib.hid ok1
          clear hall ok1
          go_enter Tryd.func5, Tryd.ntmps5
          go_wp2_with fail
          refine (VR1.out _ (HP.out.mono G0.out)).mono ?_
          rintro e w1 ⟨⟨b, rfl, hb0⟩, hb⟩
          obtain rfl : b = false := by
            cases b
            · rfl
            · exact absurd (hb0.1 rfl) OK1.out
          have B := Lib.hid (bt G0.out hb)
          clear hb hb0 VR1
          go_wp2_with fail
          refine (SA.out _ (LA.out.mono B.out)).mono ?_
          rintro e w9 ⟨rfl, hb⟩
          replace B := Lib.hid (bt B.out hb)
          clear hb
          go_wp2_with fail
          go_ret
          exact ⟨rfl, B.out⟩
      · have t2 : decide ((300 : Int) < (n2 : Int)) = true := decide_eq_true (by omega)
        clear hall
        go_enter Tryd.func5, Tryd.ntmps5
        go_wp2_with fail
        have B := G0
        refine (SA.out _ (LA.out.mono B.out)).mono ?_
        rintro e w9 ⟨rfl, hb⟩
        replace B := Lib.hid (bt B.out hb)
        clear hb
        go_wp2_with fail
        go_ret
        exact ⟨rfl, B.out⟩
    · have t1 : decide ((300 : Int) < (n1 : Int)) = true := decide_eq_true (by omega)
      clear hall
      go_enter Tryd.func5, Tryd.ntmps5
      go_wp2_with fail
      have B := G0
      refine (SA.out _ (LA.out.mono B.out)).mono ?_
      rintro e w9 ⟨rfl, hb⟩
      replace B := Lib.hid (bt B.out hb)
      clear hb
      go_wp2_with fail
      go_ret
      exact ⟨rfl, B.out⟩
end
end Go.Proofs.YtmmjkhamknfhpaaDoor
