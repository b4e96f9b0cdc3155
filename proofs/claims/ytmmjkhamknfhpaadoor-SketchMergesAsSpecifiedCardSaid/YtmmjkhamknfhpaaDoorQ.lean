/- Contracts: Merge. -/
import Derived.Test.YtmmjkhamknfhpaaDoorK
import Derived.StillTail
namespace Go.Proofs.YtmmjkhamknfhpaaDoor
set_option linter.unusedVariables false
set_option linter.unusedSimpArgs false
open Go.RowKit
/-- The first k cells merged. -/
def mergeK (a b : List Int) (k : Nat) : List Int := mergeL (a.take k) (b.take k) ++ a.drop k
theorem mergeK_len (a b : List Int) (h : a.length = b.length) (k : Nat) : (mergeK a b k).length = a.length := by unfold mergeK mergeL; simp; omega
theorem mergeK_none (a b : List Int) : mergeK a b 0 = a := by unfold mergeK mergeL; simp
theorem mergeK_all (a b : List Int) (h : a.length = b.length) : mergeK a b a.length = mergeL a b := by unfold mergeK; rw [List.take_of_length_le (Nat.le_refl _), List.take_of_length_le (by omega)]; simp
theorem mergeK_at (a b : List Int) (h : a.length = b.length) (k : Nat) (hk : k < a.length) : (mergeK a b k).getD k 0 = a.getD k 0 := by
  unfold mergeK
  rw [List.getD_eq_getElem?_getD, List.getElem?_append_right (by unfold mergeL; simp; omega), List.getD_eq_getElem?_getD]
  have : k - (mergeL (a.take k) (b.take k)).length = 0 := by unfold mergeL; simp; omega
  rw [this, List.getElem?_drop, Nat.add_zero]
theorem mergeK_set (a b : List Int) (h : a.length = b.length) (k : Nat) (hk : k < a.length) : (mergeK a b k).set k (min 15 (a.getD k 0 + b.getD k 0)) = mergeK a b (k + 1) := by
  have hb : k < b.length := by omega
  have e : (mergeL (a.take k) (b.take k)).length = k := by unfold mergeL; simp; omega
  unfold mergeK
  rw [List.drop_eq_getElem_cons hk, List.set_append_right _ _ (by omega), e, Nat.sub_self, List.set_cons_zero, List.take_add_one, List.take_add_one, List.getElem?_eq_getElem hk, List.getElem?_eq_getElem hb, getD_at 0 hk, getD_at 0 hb]
  unfold mergeL
  rw [List.zipWith_append (by simp; omega)]
  simp
theorem results_row_tmp {P : Program} {fn : Func} {p u : Tmp} {ty : TypeId} (h : fn.results = #[.cell p ty, .tmp u]) (tmps : Array Value) (w : World) (g : Nat) (t : TypeId) (cs : Array Value) (fr : Nat × Nat) (d : TypeDesc)
    (hp : tmps.getD p undef = .pointer (some ⟨g, 0, none⟩)) (hg : w.heap[g]? = some (.cells cs t fr))
    (hu : P.underlying ty = some d) (hd : (match d with | .struct _ | .array _ _ => true | _ => false) = true) (hi : (P.info? ty).map (·.size) = some cs.size) :
    (results fn tmps).run P w = .ok (.tuple #[.agg cs, tmps.getD u undef]) w := by
  have hp' : tmps[p]?.getD undef = .pointer (some ⟨g, 0, none⟩) := by simpa using hp
  simp [results, h, hp', asAddr, run_loadVar_row w g t ty cs fr d hg hu hd hi]
def mgA (S A1 A2 : Int) : Int := if S ≤ A1 + A2 then (A1 + A2) / 2 else A1 + A2
def mgL (S A1 A2 : Int) (l1 l2 : List Int) : List Int := if S ≤ A1 + A2 then halve (mergeL l1 l2) else mergeL l1 l2
theorem mergeL_bd (a b : List Int) (ha : ∀ x ∈ a, 0 ≤ x ∧ x ≤ 15) (hb : ∀ x ∈ b, 0 ≤ x ∧ x ≤ 15) : ∀ x ∈ mergeL a b, 0 ≤ x ∧ x ≤ 15 := fun x hx => by
  unfold mergeL at hx
  obtain ⟨i, hi, rfl⟩ := List.getElem_of_mem hx
  rw [List.getElem_zipWith]
  simp at hi
  have h1 := ha a[i] (List.getElem_mem _)
  have h2 := hb b[i] (List.getElem_mem _)
  omega
set_option maxRecDepth 100000 in
set_option maxHeartbeats 400000 in
theorem merge_no (W1 S1 A1 W2 S2 A2 : Int) (v1 v2 : Value) (w : World) (h : W1 ≠ W2 ∨ S1 ≠ S2) :
    Calls Tryd.prog 24 #[.agg #[.int .i64 W1, .int .i64 S1, .int .i64 A1, v1], .agg #[.int .i64 W2, .int .i64 S2, .int .i64 A2, v2]] w fun e w' => e = .returned (.tuple #[.agg #[.int .i64 0, .int .i64 0, .int .i64 0, .slice none 0 0], .int .i64 1]) ∧ Below w.heap.size w w' := by
  by_cases hW : W1 = W2
  · subst hW
    have hS : S1 ≠ S2 := by rcases h with h | h; exact absurd rfl h; exact h
    have t1 : (S1 != S2) = true := bne_iff_ne.2 hS
    clear h
    go_enter Tryd.func24, Tryd.ntmps24
    go_wp2
    refine bodyPost_ret (by simp [results, Tryd.results24, go_sem]; try rfl) rfl ?_
    exact ⟨rfl, by (repeat' (first | (with_reducible exact Below.refl _ _) | (with_reducible assumption) | (with_reducible refine Below.alloc ?_ ?_ _) | (with_reducible refine Below.drew ?_) | (with_reducible refine below_dn ?_) | (with_reducible refine Below.setCell ?_ ?_ _) | (with_reducible exact Nat.le_refl _) | omega | (simp only [World.size_alloc, World.size_setCell, World.size_drew]; omega) | (simp; omega) | (simp; done)))⟩
  · have t1 : (W1 != W2) = true := bne_iff_ne.2 hW
    clear h
    go_enter Tryd.func24, Tryd.ntmps24
    go_wp2
    refine bodyPost_ret (by simp [results, Tryd.results24, go_sem]; try rfl) rfl ?_
    exact ⟨rfl, by (repeat' (first | (with_reducible exact Below.refl _ _) | (with_reducible assumption) | (with_reducible refine Below.alloc ?_ ?_ _) | (with_reducible refine Below.drew ?_) | (with_reducible refine below_dn ?_) | (with_reducible refine Below.setCell ?_ ?_ _) | (with_reducible exact Nat.le_refl _) | omega | (simp only [World.size_alloc, World.size_setCell, World.size_drew]; omega) | (simp; omega) | (simp; done)))⟩
set_option maxRecDepth 100000 in
set_option maxHeartbeats 1000000 in
theorem merge_any (N : Nat) (S A1 A2 : Int) (a1 a2 : Option Addr) (c1 c2 : Nat) (l1 l2 : List Int) (w : World) (hp1 : IntsA w a1 l1) (hp2 : IntsA w a2 l2) (hl1 : l1.length = 4 * N) (hl2 : l2.length = 4 * N) (N0 : 0 < N) (N4 : N ≤ 4096)
    (h1 : ∀ x ∈ l1, 0 ≤ x ∧ x ≤ 15) (h2 : ∀ x ∈ l2, 0 ≤ x ∧ x ≤ 15) (hA1 : 0 ≤ A1) (hA1' : A1 < S) (hA2 : 0 ≤ A2) (hA2' : A2 < S) (hS : S ≤ 1048576) :
    Calls Tryd.prog 24 #[.agg #[.int .i64 N, .int .i64 S, .int .i64 A1, .slice a1 l1.length c1], .agg #[.int .i64 N, .int .i64 S, .int .i64 A2, .slice a2 l1.length c2]] w fun e w' => (∃ g c, e = .returned (.tuple #[.agg #[.int .i64 N, .int .i64 S, .int .i64 (mgA S A1 A2), .slice (some ⟨g, 0, none⟩) l1.length c], .int .i64 0]) ∧ RowI w' g (mgL S A1 A2 l1 l2)) ∧ Below w.heap.size w w' := by
  have hE : l1.length = l2.length := by omega
  have HP := Lib.hid hp1
  have HQ := Lib.hid hp2
  have CP := Lib.hid (fun (X : World) (h : IntsA X a1 l1) => copied_any a1 c1 l1 X h (by omega))
  have HB := Lib.hid (mergeL_bd l1 l2 h1 h2)
  have EQ := Lib.hid hE
  have ML := Lib.hid (mergeL_len l1 l2 hE)
  have H1 := Lib.hid (fun k => getD_small l1 h1 k)
  have H2 := Lib.hid (fun k => getD_small l2 h2 k)
  have n0 : 0 < l1.length := by omega
  have nM : l1.length ≤ 1000000 := by omega
  obtain ⟨n, hn⟩ : ∃ n, l1.length = n := ⟨_, rfl⟩
  have HE := Lib.hid hn
  rw [hn] at CP n0 nM ML ⊢
  clear hp1 hp2 hl1 hl2 h1 h2 hn hE N0 N4
  go_enter Tryd.func24, Tryd.ntmps24
  go_wp2_with fail
  refine (CP.out _ (HP.out.mono (by (repeat' (first | (with_reducible exact Below.refl _ _) | (with_reducible assumption) | (with_reducible refine Below.alloc ?_ ?_ _) | (with_reducible refine Below.drew ?_) | (with_reducible refine below_dn ?_) | (with_reducible refine Below.setCell ?_ ?_ _) | (with_reducible exact Nat.le_refl _) | omega | (simp only [World.size_alloc, World.size_setCell, World.size_drew]; omega) | (simp; omega) | (simp; done)))))).mono ?_
  rintro e w1 ⟨v, rfl, ho, hb1⟩
  obtain ⟨g, c, rfl, hg, hc, hr⟩ := ho.row (by rw [HE.out]; exact n0)
  rw [HE.out] at hc ⊢
  have K1 := Lib.hid (show Blk w1 w.heap.size 24 #[.int .i64 N, .int .i64 S, .int .i64 A1, .slice a1 n c1] from (((Blk.new' w _ _ _ rfl rfl).alloc _).alloc _).below hb1 (by simp; omega))
  have K2 := Lib.hid (show Blk w1 (w.heap.size + 1) 24 #[.int .i64 N, .int .i64 S, .int .i64 A2, .slice a2 n c2] from ((Blk.new' _ _ _ _ (World.size_alloc _ _) rfl).alloc _).below hb1 (by simp))
  have K3 := Lib.hid (show Blk w1 (w.heap.size + 1 + 1) 24 #[.int .i64 0, .int .i64 0, .int .i64 0, .slice none 0 0] from (Blk.new' _ _ _ _ (by simp) rfl).below hb1 (by simp))
  have B := Lib.hid (show Below w.heap.size w w1 from bt (by (repeat' (first | (with_reducible exact Below.refl _ _) | (with_reducible assumption) | (with_reducible refine Below.alloc ?_ ?_ _) | (with_reducible refine Below.drew ?_) | (with_reducible refine below_dn ?_) | (with_reducible refine Below.setCell ?_ ?_ _) | (with_reducible exact Nat.le_refl _) | omega | (simp only [World.size_alloc, World.size_setCell, World.size_drew]; omega) | (simp; omega) | (simp; done)))) hb1)
  have hg2 : w.heap.size + 3 ≤ g := by simpa using hg
  have HR := Lib.hid hr
  have HC := Lib.hid hc
  clear hb1 ho hr hg hc CP
  have f3 := K1.out.frozen 3
  have k3 : w1.cell? ⟨w.heap.size, 3, none⟩ = some (.slice a1 n c1) := K1.out.cell 3
  have m3 : w1.cell? ⟨w.heap.size + 1, 3, none⟩ = some (.slice a2 n c2) := K2.out.cell 3
  go_wp2
  go_loopw [28, 6, 7] (fun u28 _ _ wr => ∃ k : Nat, k ≤ n ∧ u28 = .int .i64 k ∧ Hid (RowI wr g (mergeK l1 l2 k)) ∧ Hid (Blk wr w.heap.size 24 #[.int .i64 N, .int .i64 S, .int .i64 A1, .slice (some ⟨g, 0, none⟩) n c]) ∧ Hid (Blk wr (w.heap.size + 1) 24 #[.int .i64 N, .int .i64 S, .int .i64 A2, .slice a2 n c2]) ∧ Hid (Blk wr (w.heap.size + 1 + 1) 24 #[.int .i64 0, .int .i64 0, .int .i64 0, .slice none 0 0]) ∧ Hid (Below w.heap.size w wr)) (fun u28 _ _ _ => n - (intOf u28).toNat)
  case atStart =>
    refine ⟨0, by omega, rfl, Lib.hid ?_, Lib.hid (show Blk _ _ _ _ from K1.out.set_ 3 _), Lib.hid (K2.out.far (by simp) _), Lib.hid (K3.out.far (by simp; omega) _), Lib.hid (B.out.setCell (Nat.le_refl _) _)⟩
    rw [mergeK_none]
    exact HR.out.far (by simp; omega) _
  case round =>
    clear K1 K2 K3 B HR f3 k3 m3
    obtain ⟨k, hk, rfl, HR, K1, K2, K3, B⟩ := hrel
    by_cases hlt : k < n
    · have kl : k < l1.length := by rw [HE.out]; exact hlt
      obtain ⟨b, off, rfl, p2⟩ := (HQ.out.mono B.out) k (by rw [← EQ.out]; exact kl)
      have q1 := HR.out.cell (k := k) (by rw [mergeK_len l1 l2 EQ.out]; exact kl)
      rw [mergeK_at l1 l2 EQ.out k kl] at q1
      have hs := mergeK_set l1 l2 EQ.out k kl
      have fr := HR.out.frozen k
      have x0 := H1.out k
      have y0 := H2.out k
      obtain ⟨x, hx⟩ : ∃ x, l1.getD k 0 = x := ⟨_, rfl⟩
      obtain ⟨y, hy⟩ : ∃ y, l2.getD k 0 = y := ⟨_, rfl⟩
      rw [hx] at q1 x0 hs
      rw [hy] at p2 y0 hs
      have wxy : IntKind.i64.wrap (x + y) = x + y := by rw [IntKind.wrap_i64]; omega
      obtain ⟨z, hz⟩ : ∃ z, x + y = z := ⟨_, rfl⟩
      rw [hz] at hs wxy
      have HS := Lib.hid hs
      clear hx hy hs kl
      have k3 : wr.cell? ⟨w.heap.size, 3, none⟩ = some (.slice (some ⟨g, 0, none⟩) n c) := K1.out.cell 3
      go_wp2
      refine wp_region_still_tail 12 (by kernel_rfl) (by kernel_rfl) ?_
      simp only [List.take_succ_cons, List.take_zero, List.drop_succ_cons, List.drop_zero]
      show wpStill _ _ (World.drew _) _ _ _
      repeat still_step
      refine wpStill_nil ?_
      show wpList _ _ _ _ _ (World.drew _)
      go_wp2
      go_roundw
      case rel =>
        refine ⟨k + 1, by omega, by go_num, Lib.hid ?_, Lib.hid (K1.out.drew.far (by simp; omega) _), Lib.hid (K2.out.drew.far (by simp; omega) _), Lib.hid (K3.out.drew.far (by simp; omega) _), Lib.hid (Below.setCell (Below.drew B.out) (by simp; omega) _)⟩
        rw [← HS.out]
        exact HR.out.drew.set_ k _
      case measure => simp [intOf]; omega
    · have hkn : k = l1.length := by rw [HE.out]; omega
      rw [hkn, mergeK_all l1 l2 EQ.out] at HR
      have b2 : wr.cell? ⟨w.heap.size, 2, none⟩ = some (.int .i64 A1) := K1.out.cell 2
      have m2 : wr.cell? ⟨w.heap.size + 1, 2, none⟩ = some (.int .i64 A2) := K2.out.cell 2
      have f2 := K1.out.frozen 2
      have wm : IntKind.i64.wrap (A1 + A2) = A1 + A2 := by rw [IntKind.wrap_i64]; omega
      obtain ⟨M, hM⟩ : ∃ M, A1 + A2 = M := ⟨_, rfl⟩
      have M0 : 0 ≤ M := by omega
      have M1 : M ≤ 9223372036854775807 := by omega
      rw [hM] at wm
      have KX := Lib.hid (show Blk (wr.setCell ⟨w.heap.size, 2, none⟩ (.int .i64 M)) w.heap.size 24 #[.int .i64 N, .int .i64 S, .int .i64 M, .slice (some ⟨g, 0, none⟩) n c] from K1.out.set_ 2 _)
      have KR := Lib.hid (show Blk (wr.setCell ⟨w.heap.size, 2, none⟩ (.int .i64 M)) (w.heap.size + 1 + 1) 24 #[.int .i64 0, .int .i64 0, .int .i64 0, .slice none 0 0] from K3.out.far (by simp; omega) _)
      have RX := Lib.hid (show RowI (wr.setCell ⟨w.heap.size, 2, none⟩ (.int .i64 M)) g (mergeL l1 l2) from HR.out.far (by simp; omega) _)
      have BX := Lib.hid (show Below w.heap.size w (wr.setCell ⟨w.heap.size, 2, none⟩ (.int .i64 M)) from B.out.setCell (Nat.le_refl _) _)
      clear K1 K2 K3 HR B hkn
      have d0 := KX.out.cell 0
      change _ = some (Value.int .i64 N) at d0
      have d1 := KX.out.cell 1
      change _ = some (Value.int .i64 S) at d1
      have d2 := KX.out.cell 2
      change _ = some (Value.int .i64 M) at d2
      have d3 := KX.out.cell 3
      change _ = some (Value.slice (some ⟨g, 0, none⟩) n c) at d3
      by_cases hS1 : S ≤ M
      · have t1 : decide (S ≤ M) = true := decide_eq_true hS1
        have EA := Lib.hid (show mgA S A1 A2 = M / 2 by unfold mgA; rw [hM, if_pos hS1])
        have EL := Lib.hid (show mgL S A1 A2 l1 l2 = halve (mergeL l1 l2) by unfold mgL; rw [hM, if_pos hS1])
        have HV := Lib.hid (fun (Y : World) (IA : IntsA Y (some ⟨g, 0, none⟩) (mergeL l1 l2)) => halve_any N S M (some ⟨g, 0, none⟩) c (mergeL l1 l2) Y IA (by rw [ML.out]; exact nM) HB.out (by rw [ML.out]; exact n0) M0 M1)
        rw [ML.out] at HV
        go_wp2_with fail
        refine (HV.out _ RX.out.ints).mono ?_
        rintro e w5 ⟨⟨g2, c2', rfl, hc2, hg2, hr2⟩, hb5⟩
        replace KR := Lib.hid (KR.out.below hb5 KR.out.lt)
        have G2 := Lib.hid (show w.heap.size + 3 ≤ g2 from Nat.le_trans (by have := KR.out.lt; have := RX.out.lt; omega) hg2)
        replace BX := Lib.hid (bt BX.out hb5)
        obtain ⟨M2, hM2⟩ : ∃ x, M / 2 = x := ⟨_, rfl⟩
        rw [hM2] at EA ⊢
        have HR2 := Lib.hid hr2
        have HC2 := Lib.hid hc2
        clear hb5 hr2 hc2 HV d0 d1 d2 d3 b2 f2 m2
        have IX := Lib.hid (show (Tryd.prog.info? 24).map (·.size) = some (#[.int .i64 N, .int .i64 S, .int .i64 M2, .slice (some ⟨g2, 0, none⟩) n c2'] : Array Value).size by kernel_rfl)
        have Ioq := Lib.hid (show (#[.int .i64 N, .int .i64 S, .int .i64 M2, .slice (some ⟨g2, 0, none⟩) n c2'] : Array Value).all (·.oneCell') = true by simp [Value.oneCell'])
        go_wp2_with (first | (with_reducible refine wpList_store_blk rfl _ _ _ rfl (w.heap.size + 1 + 1) 24 #[.int .i64 0, .int .i64 0, .int .i64 0, .slice none 0 0] #[.int .i64 N, .int .i64 S, .int .i64 M2, .slice (some ⟨g2, 0, none⟩) n c2'] rfl rfl KR.out IX.out rfl Ioq.out rfl ?_) | fail)
        rw [EA.out, EL.out]
        refine bodyPost_ret (results_row_tmp (p := 4) (u := 5) rfl _ _ _ 24 _ (0, 0) _ rfl (KR.out.row_ _) Tryd.underlying24 rfl IX.out) rfl ?_
        exact ⟨⟨g2, c2', rfl, HR2.out.rowfar (by have := G2.out; omega) _⟩, below_setRow BX.out (by omega) _⟩
      · have t1 : decide (S ≤ M) = false := decide_eq_false hS1
        have EA := Lib.hid (show mgA S A1 A2 = M by unfold mgA; rw [hM, if_neg hS1])
        have EL := Lib.hid (show mgL S A1 A2 l1 l2 = mergeL l1 l2 by unfold mgL; rw [hM, if_neg hS1])
        have IX := Lib.hid (show (Tryd.prog.info? 24).map (·.size) = some (#[.int .i64 N, .int .i64 S, .int .i64 M, .slice (some ⟨g, 0, none⟩) n c] : Array Value).size by kernel_rfl)
        have Ioq := Lib.hid (show (#[.int .i64 N, .int .i64 S, .int .i64 M, .slice (some ⟨g, 0, none⟩) n c] : Array Value).all (·.oneCell') = true by simp [Value.oneCell'])
        go_wp2_with (first | (with_reducible refine wpList_store_blk rfl _ _ _ rfl (w.heap.size + 1 + 1) 24 #[.int .i64 0, .int .i64 0, .int .i64 0, .slice none 0 0] #[.int .i64 N, .int .i64 S, .int .i64 M, .slice (some ⟨g, 0, none⟩) n c] rfl rfl KR.out IX.out rfl Ioq.out rfl ?_) | fail)
        rw [EA.out, EL.out]
        refine bodyPost_ret (results_row_tmp (p := 4) (u := 5) rfl _ _ _ 24 _ (0, 0) _ rfl (KR.out.row_ _) Tryd.underlying24 rfl IX.out) rfl ?_
        exact ⟨⟨g, ⟨c, rfl⟩, RX.out.rowfar (by omega) _⟩, below_setRow BX.out (by omega) _⟩
end Go.Proofs.YtmmjkhamknfhpaaDoor
