/- Contracts: the reference's Fill; Halve of both. -/
import Derived.Test.YtmmjkhamknfhpaaDoorB
import Derived.StillTailTactics
namespace Go.Proofs.YtmmjkhamknfhpaaDoor
set_option linter.unusedVariables false
set_option linter.unusedSimpArgs false
open Go.RowKit
set_option maxHeartbeats 400000 in
theorem fillref_any (W S A : Int) (a : Option Addr) (cap : Nat) (l : List Int) (w : World) (hp : IntsA w a l) (hm : l.length ≤ 1000000) (h0 : ∀ x ∈ l, 0 ≤ x) :
    Calls Tryd.prog 18 #[.agg #[.int .i64 W, .int .i64 S, .int .i64 A, .slice a l.length cap]] w fun e w' => e = .returned (.int .i64 (fill l : Int)) ∧ Below w.heap.size w w' := by
  obtain ⟨n, hn⟩ : ∃ n, l.length = n := ⟨_, rfl⟩
  have HE := Lib.hid hn; have HP := Lib.hid hp; have H0 := Lib.hid h0
  rw [hn] at hm ⊢
  clear hp hn h0
  go_enter Tryd.func18, Tryd.ntmps18
  go_wp2
  go_loopw [3, 4] (fun u3 u9 wr => ∃ k f : Nat, k ≤ n ∧ u9 = .int .i64 k ∧ u3 = .int .i64 f ∧ f ≤ k ∧ Hid (fill (l.take k) = f) ∧ Hid (Blk wr w.heap.size 24 #[.int .i64 W, .int .i64 S, .int .i64 A, .slice a n cap]) ∧ Hid (Below w.heap.size w wr)) (fun _ u9 _ => n - (intOf u9).toNat)
  case atStart => exact ⟨0, 0, by omega, rfl, rfl, by omega, Lib.hid rfl, Lib.hid (Blk.new' _ _ _ _ rfl rfl), Lib.hid (by (repeat' (first | (with_reducible exact Below.refl _ _) | (with_reducible assumption) | (with_reducible refine Below.alloc ?_ ?_ _) | (with_reducible refine Below.drew ?_) | (with_reducible refine below_dn ?_) | (with_reducible refine Below.setCell ?_ ?_ _) | (with_reducible exact Nat.le_refl _) | omega | (simp only [World.size_alloc, World.size_setCell, World.size_drew]; omega) | (simp; omega) | (simp; done))))⟩
  case round =>
    obtain ⟨k, f, hk, rfl, rfl, hfk, hf, hK, hbe⟩ := hrel
    have c3 : wr.cell? ⟨w.heap.size, 3, none⟩ = some (.slice a n cap) := hK.out.cell 3
    by_cases hlt : k < n
    · obtain ⟨b, off, rfl, q1⟩ := (HP.out.mono hbe.out) k (by rw [HE.out]; exact hlt)
      have ht := fill_take l k (by rw [HE.out]; exact hlt)
      rw [hf.out] at ht
      have hx0 := H0.out (l.getD k 0) (by rw [List.getD_eq_getElem?_getD, List.getElem?_eq_getElem (by rw [HE.out]; exact hlt)]; exact List.getElem_mem _)
      obtain ⟨x, hx⟩ : ∃ x, l.getD k 0 = x := ⟨_, rfl⟩
      rw [hx] at q1 ht hx0
      by_cases h0 : x = 0
      · have t1 : x ≤ 0 := by omega
        rw [if_pos h0] at ht
        have HT := Lib.hid ht
        clear hx ht h0 hx0
        go_wp2
        go_roundw
        case rel => exact ⟨k + 1, f, by omega, by go_num, rfl, by omega, HT, hK, hbe⟩
        case measure => simp [intOf]; omega
      · have t1 : 0 < x := by omega
        rw [if_neg h0] at ht
        have HT := Lib.hid ht
        clear hx ht h0 hx0
        go_wp2
        go_roundw
        case rel => exact ⟨k + 1, f + 1, by omega, by go_num, by go_num, by omega, HT, hK, hbe⟩
        case measure => simp [intOf]; omega
    · have hf' := hf.out
      rw [List.take_of_length_le (by rw [HE.out]; omega)] at hf'
      have HF := Lib.hid hf'
      clear hf'
      go_wp2
      go_ret
      exact ⟨by rw [HF.out]; rfl, hbe.out⟩
/-- The first k cells halved. -/
def halfK (l : List Int) (k : Nat) : List Int := halve (l.take k) ++ l.drop k
theorem halfK_len (l : List Int) (k : Nat) : (halfK l k).length = l.length := by unfold halfK halve; simp; omega
theorem halfK_at (l : List Int) (k : Nat) (h : k < l.length) : (halfK l k).getD k 0 = l.getD k 0 := by
  unfold halfK halve
  rw [List.getD_eq_getElem?_getD, List.getElem?_append_right (by simp; omega), List.getD_eq_getElem?_getD]
  simp [Nat.min_eq_left (Nat.le_of_lt h)]
theorem halfK_set (l : List Int) (k : Nat) (h : k < l.length) : (halfK l k).set k (l.getD k 0 / 2) = halfK l (k + 1) := by
  apply List.ext_getElem?
  intro j
  unfold halfK halve
  rw [List.getElem?_set]
  simp only [List.getElem?_append, List.length_map, List.length_take, List.getElem?_map, List.getElem?_take, List.getElem?_drop, Nat.min_eq_left (Nat.le_of_lt h), Nat.min_eq_left (show k + 1 ≤ l.length from h), List.length_append, List.length_drop]
  by_cases hjk : k = j
  · subst hjk
    simp [h, List.getD_eq_getElem?_getD, List.getElem?_eq_getElem h]
    omega
  · rw [if_neg hjk]
    rcases Nat.lt_or_ge j k with hj | hj
    · simp [hj, show j < k + 1 by omega]
    · rw [if_neg (by omega), if_neg (by omega), show k + (j - k) = k + 1 + (j - (k + 1)) by omega]
theorem halfK_all (l : List Int) : halfK l l.length = halve l := by unfold halfK; simp
theorem halfK_none (l : List Int) : halfK l 0 = l := by unfold halfK halve; simp
theorem halve_len (l : List Int) : (halve l).length = l.length := by unfold halve; simp
set_option maxRecDepth 100000 in
set_option maxHeartbeats 400000 in
theorem halve_any (W S A : Int) (a : Option Addr) (cap : Nat) (l : List Int) (w : World) (hp : IntsA w a l) (hm : l.length ≤ 1000000) (h0 : ∀ x ∈ l, 0 ≤ x ∧ x ≤ 15) (hl : 0 < l.length) (hA : 0 ≤ A) (hA2 : A ≤ 9223372036854775807) :
    Calls Tryd.prog 26 #[.agg #[.int .i64 W, .int .i64 S, .int .i64 A, .slice a l.length cap]] w fun e w' => (∃ g c, e = .returned (.agg #[.int .i64 W, .int .i64 S, .int .i64 (A / 2), .slice (some ⟨g, 0, none⟩) l.length c]) ∧ l.length ≤ c ∧ w.heap.size ≤ g ∧ RowI w' g (halve l)) ∧ Below w.heap.size w w' := by
  have HP := Lib.hid hp
  have CP := Lib.hid (fun (X : World) (h : IntsA X a l) => copied_any a cap l X h hm)
  have H0 := Lib.hid h0
  obtain ⟨n, hn⟩ : ∃ n, l.length = n := ⟨_, rfl⟩
  have HE := Lib.hid hn
  have eA : A.tdiv 2 = A / 2 := Int.tdiv_eq_ediv_of_nonneg hA
  have wA : IntKind.i64.wrap (A / 2) = A / 2 := by rw [IntKind.wrap_i64]; omega
  obtain ⟨A2, hA2'⟩ : ∃ x, A / 2 = x := ⟨_, rfl⟩
  rw [hA2'] at eA wA ⊢
  rw [hn] at CP hm hl ⊢
  clear hp hn h0 hA2' hA hA2
  go_enter Tryd.func26, Tryd.ntmps26
  go_wp2_with fail
  refine (CP.out _ (HP.out.mono (by (repeat' (first | (with_reducible exact Below.refl _ _) | (with_reducible assumption) | (with_reducible refine Below.alloc ?_ ?_ _) | (with_reducible refine Below.drew ?_) | (with_reducible refine below_dn ?_) | (with_reducible refine Below.setCell ?_ ?_ _) | (with_reducible exact Nat.le_refl _) | omega | (simp only [World.size_alloc, World.size_setCell, World.size_drew]; omega) | (simp; omega) | (simp; done)))))).mono ?_
  rintro e w1 ⟨v, rfl, ho, hb1⟩
  obtain ⟨g, c, rfl, hg, hc, hr⟩ := ho.row (by rw [HE.out]; exact hl)
  rw [HE.out] at hc ⊢
  have K1 := Lib.hid (show Blk w1 w.heap.size 24 #[.int .i64 W, .int .i64 S, .int .i64 A, .slice a n cap] from ((Blk.new' w _ _ _ rfl rfl).alloc _).below hb1 (by simp; omega))
  have K2 := Lib.hid (show Blk w1 (w.heap.size + 1) 24 #[.int .i64 0, .int .i64 0, .int .i64 0, .slice none 0 0] from (Blk.new' _ _ _ _ (World.size_alloc _ _) rfl).below hb1 (by simp))
  have B1 := Lib.hid (show Below w.heap.size w w1 from bt (by (repeat' (first | (with_reducible exact Below.refl _ _) | (with_reducible assumption) | (with_reducible refine Below.alloc ?_ ?_ _) | (with_reducible refine Below.drew ?_) | (with_reducible refine below_dn ?_) | (with_reducible refine Below.setCell ?_ ?_ _) | (with_reducible exact Nat.le_refl _) | omega | (simp only [World.size_alloc, World.size_setCell, World.size_drew]; omega) | (simp; omega) | (simp; done)))) hb1)
  have HR := Lib.hid hr
  have hg2 : w.heap.size + 2 ≤ g := by simpa using hg
  have HC := Lib.hid hc
  clear hb1 ho hr hg hc CP
  have c3 : w1.cell? ⟨w.heap.size, 3, none⟩ = some (.slice a n cap) := K1.out.cell 3
  have f3 := K1.out.frozen 3
  go_wp2
  go_loopw [11, 3] (fun u11 _ wr => ∃ k : Nat, k ≤ n ∧ u11 = .int .i64 k ∧ Hid (RowI wr g (halfK l k)) ∧ Hid (Blk wr w.heap.size 24 #[.int .i64 W, .int .i64 S, .int .i64 A, .slice (some ⟨g, 0, none⟩) n c]) ∧ Hid (Blk wr (w.heap.size + 1) 24 #[.int .i64 0, .int .i64 0, .int .i64 0, .slice none 0 0]) ∧ Hid (Below w.heap.size w wr)) (fun u11 _ _ => n - (intOf u11).toNat)
  case atStart =>
    refine ⟨0, by omega, rfl, Lib.hid ?_, Lib.hid (show Blk _ _ _ _ from K1.out.set_ 3 _), Lib.hid (K2.out.far (by simp) _), Lib.hid (B1.out.setCell (Nat.le_refl _) _)⟩
    rw [halfK_none]
    exact HR.out.far (by simp; omega) _
  case round =>
    clear K1 K2 B1 HR c3 f3
    obtain ⟨k, hk, rfl, HR, K1, K2, hbe⟩ := hrel
    have c3 : wr.cell? ⟨w.heap.size, 3, none⟩ = some (.slice (some ⟨g, 0, none⟩) n c) := K1.out.cell 3
    by_cases hlt : k < n
    · have q1 := HR.out.cell (k := k) (by rw [halfK_len, HE.out]; exact hlt)
      rw [halfK_at l k (by rw [HE.out]; exact hlt)] at q1
      have hs := halfK_set l k (by rw [HE.out]; exact hlt)
      have fr := HR.out.frozen k
      have hx0 := H0.out (l.getD k 0) (by rw [List.getD_eq_getElem?_getD, List.getElem?_eq_getElem (by rw [HE.out]; exact hlt)]; exact List.getElem_mem _)
      obtain ⟨x, hx⟩ : ∃ x, l.getD k 0 = x := ⟨_, rfl⟩
      rw [hx] at q1 hx0 hs
      have e1 : x.tdiv 2 = x / 2 := Int.tdiv_eq_ediv_of_nonneg hx0.1
      have e2 : IntKind.i64.wrap (x / 2) = x / 2 := by rw [IntKind.wrap_i64]; omega
      obtain ⟨y, hy⟩ : ∃ y, x / 2 = y := ⟨_, rfl⟩
      rw [hy] at e1 e2 hs
      have HS := Lib.hid hs
      clear hx hx0 hy hs
      go_wp2
      go_roundw
      case rel =>
        refine ⟨k + 1, by omega, by go_num, Lib.hid ?_, Lib.hid (K1.out.far (by simp; omega) _), Lib.hid (K2.out.far (by simp; omega) _), Lib.hid (hbe.out.setCell (by simp; omega) _)⟩
        rw [← HS.out]
        exact HR.out.set_ k y
      case measure => simp [intOf]; omega
    · have hkn : k = n := by omega
      rw [hkn, ← HE.out, halfK_all] at HR
      have c2 : wr.cell? ⟨w.heap.size, 2, none⟩ = some (.int .i64 A) := K1.out.cell 2
      have f2 := K1.out.frozen 2
      have KX := Lib.hid (show Blk (wr.setCell ⟨w.heap.size, 2, none⟩ (.int .i64 A2)) w.heap.size 24 #[.int .i64 W, .int .i64 S, .int .i64 A2, .slice (some ⟨g, 0, none⟩) n c] from K1.out.set_ 2 _)
      have KY := Lib.hid (show Blk (wr.setCell ⟨w.heap.size, 2, none⟩ (.int .i64 A2)) (w.heap.size + 1) 24 #[.int .i64 0, .int .i64 0, .int .i64 0, .slice none 0 0] from K2.out.far (by simp) _)
      have RX := Lib.hid (show RowI (wr.setCell ⟨w.heap.size, 2, none⟩ (.int .i64 A2)) g (halve l) from HR.out.far (by simp; omega) _)
      have BX := Lib.hid (show Below w.heap.size w (wr.setCell ⟨w.heap.size, 2, none⟩ (.int .i64 A2)) from hbe.out.setCell (Nat.le_refl _) _)
      have IX := Lib.hid (show (Tryd.prog.info? 24).map (·.size) = some (#[.int .i64 W, .int .i64 S, .int .i64 A2, .slice (some ⟨g, 0, none⟩) n c] : Array Value).size by kernel_rfl)
      have Ioq := Lib.hid (show (#[.int .i64 W, .int .i64 S, .int .i64 A2, .slice (some ⟨g, 0, none⟩) n c] : Array Value).all (·.oneCell') = true by simp [Value.oneCell'])
      clear hkn K1 K2 HR hbe c3
      go_wp2_with (first | (with_reducible refine wpList_load_all rfl _ _ rfl w.heap.size rfl 24 _ _ KX.out Tryd.underlying24 IX.out ?_) | (with_reducible refine wpList_store_blk rfl _ _ _ rfl (w.heap.size + 1) 24 #[.int .i64 0, .int .i64 0, .int .i64 0, .slice none 0 0] #[.int .i64 W, .int .i64 S, .int .i64 A2, .slice (some ⟨g, 0, none⟩) n c] rfl rfl KY.out IX.out rfl Ioq.out rfl ?_))
      refine bodyPost_ret (v := .agg #[.int .i64 W, .int .i64 S, .int .i64 A2, .slice (some ⟨g, 0, none⟩) n c]) (results_cell_row rfl _ _ _ 24 _ (0, 0) _ rfl (KY.out.row_ _) Tryd.underlying24 rfl IX.out) rfl ⟨⟨g, c, rfl, HC.out, by omega, RX.out.rowfar (by omega) _⟩, below_setRow BX.out (by omega) _⟩
end Go.Proofs.YtmmjkhamknfhpaaDoor
