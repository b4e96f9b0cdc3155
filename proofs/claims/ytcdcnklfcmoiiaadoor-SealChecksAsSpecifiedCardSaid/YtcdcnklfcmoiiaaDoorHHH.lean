/- Ported from another seat (wip/hash/HH.src, by wip/port.py): contracts that this chapter calls. -/
import Derived.Test.YtcdcnklfcmoiiaaDoorHGG
import Derived.Test.YtcdcnklfcmoiiaaDoorHT
namespace Go.Proofs.YtcdcnklfcmoiiaaDoor
set_option linter.unusedVariables false
set_option linter.unusedSimpArgs false
namespace Hs
open Go.RowKit
attribute [local go_sem] zeroSt
attribute [local simp] zeroSt_ne
set_option maxRecDepth 100000 in
set_option maxHeartbeats 1000000 in
theorem shortref_any (D : List Nat) (v : Value) (w : World) (hD : D.length = 32) (h : ∀ W, Below w.heap.size w W → Calls Tryd.prog 99 #[v] W fun e w' => e = .returned (.agg (bvs D)) ∧ Below W.heap.size W w') :
    Calls Tryd.prog 91 #[v] w fun e w' => e = .returned (.agg (bvs (D.take 16))) ∧ Below w.heap.size w w' := by
  have C := Lib.hid h
  have HD := Lib.hid hD
  have ia : (Tryd.prog.info? 128).map (·.size) = some (bvs D).size := by rw [bvs_size, hD]; kernel_rfl
  have sz : (bvs (List.replicate 32 0)).size = (bvs D).size := by rw [bvs_size, bvs_size, hD]; rfl
  have IA := Lib.hid ia; have SZ := Lib.hid sz
  clear h hD ia sz
  go_enter Tryd.func91, Tryd.ntmps91
  go_wp2_with fail
  refine (C.out _ (by (repeat' (first | (with_reducible exact Below.refl _ _) | (with_reducible assumption) | (with_reducible refine Below.alloc ?_ ?_ _) | (with_reducible refine Below.drew ?_) | (with_reducible refine below_dn ?_) | (with_reducible refine Below.setCell ?_ ?_ _) | (with_reducible exact Nat.le_refl _) | omega | (simp only [World.size_alloc, World.size_setCell, World.size_drew]; omega) | (simp; omega) | (simp; done))))).mono ?_
  rintro e w1 ⟨rfl, hb1⟩
  have J2 := Lib.hid (show Blk w1 w.heap.size 56 (bvs (List.replicate 16 0)) from (Blk.new' w 56 _ (bvs (List.replicate 16 0)) rfl rfl).below hb1 (by simp))
  have B1 := Lib.hid (show Below w.heap.size w w1 from bt (by (repeat' (first | (with_reducible exact Below.refl _ _) | (with_reducible assumption) | (with_reducible refine Below.alloc ?_ ?_ _) | (with_reducible refine Below.drew ?_) | (with_reducible refine below_dn ?_) | (with_reducible refine Below.setCell ?_ ?_ _) | (with_reducible exact Nat.le_refl _) | omega | (simp only [World.size_alloc, World.size_setCell, World.size_drew]; omega) | (simp; omega) | (simp; done)))) hb1)
  have z1 : w.heap.size < w1.heap.size := by have := J2.out.lt; exact this
  clear hb1 C
  go_wp2_with (with_reducible refine wpList_store_blk rfl _ _ _ rfl w1.heap.size 128 (bvs (List.replicate 32 0)) _ rfl rfl (Blk.new' _ _ _ _ rfl rfl) IA.out SZ.out (bvs_one _) rfl ?_)
  generalize hW : World.setRow _ w1.heap.size (bvs D) = W3
  have hS : W3.heap.size = w1.heap.size + 1 := by rw [← hW]; simp
  have K3 := Lib.hid (show Blk W3 w1.heap.size 128 (bvs D) by rw [← hW]; exact (Blk.new' w1 128 _ (bvs (List.replicate 32 0)) rfl rfl).row_ _)
  have K2 := Lib.hid (show Blk W3 w.heap.size 56 (bvs (List.replicate 16 0)) by rw [← hW]; exact (J2.out.alloc _).rowfar (by omega) _)
  have B3 := Lib.hid (show Below w.heap.size w W3 by rw [← hW]; exact below_setRow (B1.out.alloc B1.out.size _) B1.out.size _)
  obtain ⟨G, hG⟩ : ∃ G, w1.heap.size = G := ⟨_, rfl⟩
  rw [hG] at K3 hS z1 ⊢
  clear hW J2 B1 hG IA SZ
  go_loopw [5] (fun ui wr => ∃ k : Nat, k ≤ 16 ∧ ui = .int .i64 k ∧ Hid (Blk wr w.heap.size 56 (bvs (List.replicate 16 0))) ∧ Hid (Blk wr G 128 (bvs D)) ∧ Hid (Blk wr (G + 1) 56 (bvs (pad 16 (D.take k)))) ∧ Hid (Below w.heap.size w wr)) (fun ui _ => 16 - (intOf ui).toNat)
  case atStart => exact ⟨0, by omega, rfl, Lib.hid (K2.out.alloc _), Lib.hid (K3.out.alloc _), Lib.hid (Blk.new' _ _ _ _ hS rfl), Lib.hid (B3.out.alloc B3.out.size _)⟩
  case round =>
    obtain ⟨k, hk, rfl, h2, h3, h4, hbe⟩ := hrel
    by_cases hlt : k < 16
    · have d0 := (h3.out.cell k).trans (bvs_at D k (by rw [HD.out]; omega))
      have fr := h4.out.frozen k
      have lk : (D.take k).length = k := by rw [List.length_take, HD.out]; omega
      have dk := (h4.out.cell k).trans (bvs_at _ k (by rw [pad_len _ _ (by rw [lk]; omega)]; omega))
      have tk : D.take (k + 1) = D.take k ++ [D.getD k 0] := by
        rw [List.take_add_one, List.getElem?_eq_getElem (by rw [HD.out]; omega), List.getD_eq_getElem?_getD, List.getElem?_eq_getElem (by rw [HD.out]; omega)]
        rfl
      have ps := pad_set 16 (D.take k) (D.getD k 0) (by rw [lk]; omega)
      rw [lk, ← tk] at ps
      obtain ⟨x, hx⟩ : ∃ x, D.getD k 0 = x := ⟨_, rfl⟩
      obtain ⟨od, hod⟩ : ∃ x, (pad 16 (D.take k)).getD k 0 = x := ⟨_, rfl⟩
      rw [hx] at d0 ps; rw [hod] at dk
      have PS := Lib.hid ps
      have i1 : (k : Int) < 32 := by omega
      have i2 : (k : Int) < 16 := by omega
      have pk : (0 : Int) ≤ (k : Int) := by omega
      clear lk tk ps hx hod
      go_wp2
      go_roundw
      case rel =>
        refine ⟨k + 1, by omega, by go_num, Lib.hid (h2.out.far (by simp; omega) _), Lib.hid (h3.out.far (by simp) _), Lib.hid ?_, Lib.hid ?_⟩
        · have := h4.out.set_ k (bv x)
          rw [bvs_set, PS.out] at this
          exact this
        · have := hbe.out; (repeat' (first | (with_reducible exact Below.refl _ _) | (with_reducible assumption) | (with_reducible refine Below.alloc ?_ ?_ _) | (with_reducible refine Below.drew ?_) | (with_reducible refine below_dn ?_) | (with_reducible refine Below.setCell ?_ ?_ _) | (with_reducible exact Nat.le_refl _) | omega | (simp only [World.size_alloc, World.size_setCell, World.size_drew]; omega) | (simp; omega) | (simp; done)))
      case measure => simp [intOf]; omega
    · obtain rfl : k = 16 := by omega
      have l16 : (D.take 16).length = 16 := by rw [List.length_take, HD.out]; rfl
      rw [pad_full _ _ l16] at h4
      have ia : (Tryd.prog.info? 56).map (·.size) = some (bvs (D.take 16)).size := by rw [bvs_size, l16]; kernel_rfl
      have sz : (bvs (List.replicate 16 0)).size = (bvs (D.take 16)).size := by rw [bvs_size, bvs_size, l16]; rfl
      have IA := Lib.hid ia; have SZ := Lib.hid sz
      clear ia sz l16
      go_wp2_with (first | (with_reducible refine wpList_load_blk rfl _ _ rfl (G + 1) rfl 56 _ _ _ h4.out Tryd.underlying56 IA.out ?_) | (with_reducible refine wpList_store_blk rfl _ _ _ rfl w.heap.size 56 _ _ rfl rfl h2.out IA.out SZ.out (bvs_one _) rfl ?_))
      refine bodyPost_ret (v := .agg (bvs (D.take 16))) (results_cell_row rfl _ _ _ 56 _ (0, 0) _ rfl (h2.out.row_ _) Tryd.underlying56 rfl IA.out) rfl ⟨rfl, ?_⟩
      exact below_setRow hbe.out (Nat.le_refl _) _
end Hs
end Go.Proofs.YtcdcnklfcmoiiaaDoor
