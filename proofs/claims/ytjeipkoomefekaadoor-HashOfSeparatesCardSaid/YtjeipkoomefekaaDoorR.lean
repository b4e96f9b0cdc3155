/- Contracts of the law's helpers: bytes as strings, and their digits. -/
import Derived.Test.YtjeipkoomefekaaDoorQ
namespace Go.Proofs.YtjeipkoomefekaaDoor
set_option linter.unusedVariables false
set_option linter.unusedSimpArgs false
open Go.RowKit
set_option maxRecDepth 100000 in
set_option maxHeartbeats 1000000 in
theorem bytes32_any (l : List Nat) (w : World) (hl : l.length = 32) (hlt : ∀ x ∈ l, x < 256) : Calls Tryd.prog 38 #[.agg (bvs l)] w fun e w' => e = .returned (.string (strB l)) ∧ Below w.heap.size w w' := by
  have HL := Lib.hid hl; have HT := Lib.hid hlt
  have IA := Lib.hid (show (Tryd.prog.info? 47).map (·.size) = some (bvs l).size by rw [bvs_size, hl]; kernel_rfl)
  clear hl hlt
  go_enter Tryd.func38, Tryd.ntmps38
  go_wp2
  go_loopw [3, 4] (fun uv uk wr => ∃ k : Nat, k ≤ 32 ∧ uk = .int .i64 k ∧ w.heap.size + 1 ≤ wr.heap.size ∧ Hid (OwnB wr (w.heap.size + 1) uv (l.take k)) ∧ Hid (Blk wr w.heap.size 47 (bvs l)) ∧ Hid (Below w.heap.size w wr)) (fun _ uk _ => 32 - (intOf uk).toNat)
  case atStart => exact ⟨0, by omega, rfl, by simp, OwnB.nil _ _, Blk.new w _ _, by unfold Hid; (repeat' (first | (with_reducible exact Below.refl _ _) | (with_reducible assumption) | (with_reducible refine Below.alloc ?_ ?_ _) | (with_reducible refine Below.drew ?_) | (with_reducible refine below_dn ?_) | (with_reducible refine Below.setCell ?_ ?_ _) | (with_reducible exact Nat.le_refl _) | omega | (simp only [World.size_alloc, World.size_setCell, World.size_drew]; omega) | (simp; omega) | (simp; done)))⟩
  case round =>
    obtain ⟨k, hk, rfl, hsz, how, h0, hbe⟩ := hrel
    by_cases hlt : k < 32
    · have d0 := (h0.out.cell k).trans (bvs_at l k (by rw [HL.out]; exact hlt))
      have htk : l.take (k + 1) = l.take k ++ [l.getD k 0] := by
        rw [List.take_add_one, List.getElem?_eq_getElem (by rw [HL.out]; exact hlt), List.getD_eq_getElem?_getD, List.getElem?_eq_getElem (by rw [HL.out]; exact hlt)]
        rfl
      obtain ⟨x, hx⟩ : ∃ x, l.getD k 0 = x := ⟨_, rfl⟩
      rw [hx] at d0 htk
      have HTK := Lib.hid htk
      have hln := Lib.hid (show (l.take k).length ≤ 1000000000 by rw [List.length_take, HL.out]; omega)
      have ik : (k : Int) < 32 := by omega
      have pk : (0 : Int) ≤ (k : Int) := by omega
      clear hx htk
      go_wp2_with (at_builtin; refine wpApp rfl _ _ rfl (w.heap.size + 1) _ _ rfl how.out x _ ?hy rfl ?hlen ?hBB ?_)
      case hy => rfl
      case hlen => exact hln.out
      case hBB => exact hsz
      intro v' w2 hown' hb2
      have HO' := Lib.hid (show OwnB w2 (w.heap.size + 1) v' (l.take (k + 1)) by rw [HTK.out]; exact hown')
      have h02 := Lib.hid (h0.out.below hb2 (by omega))
      have HB2 := Lib.hid (hbe.out.trans (hb2.mono (by omega)))
      have hz2 := hb2.size
      clear hown' hb2
      go_wp2
      go_roundw
      case rel => exact ⟨k + 1, by omega, by go_num, by omega, HO', h02, HB2⟩
      case measure => simp [intOf]; omega
    · have hkn : k = 32 := by omega
      have how' := how.out
      rw [List.take_of_length_le (by rw [HL.out]; omega)] at how'
      obtain ⟨a, cap, e1, hc, hbb⟩ := OwnB.view how' HT.out
      subst e1
      have cs := conv_str l a cap wr hbb
      have BE := Lib.hid hbe.out
      clear how how' hc hbb hkn hbe
      go_wp2
      go_ret
      exact ⟨rfl, BE.out⟩
set_option maxRecDepth 100000 in
set_option maxHeartbeats 1000000 in
theorem text_any (l : List Nat) (w : World) (hl : l.length = 16) (hlt : ∀ x ∈ l, x < 256) : Calls Tryd.prog 39 #[.agg (bvs l)] w fun e w' => e = .returned (.string (strB l)) ∧ Below w.heap.size w w' := by
  have HL := Lib.hid hl; have HT := Lib.hid hlt
  have IA := Lib.hid (show (Tryd.prog.info? 58).map (·.size) = some (bvs l).size by rw [bvs_size, hl]; kernel_rfl)
  clear hl hlt
  go_enter Tryd.func39, Tryd.ntmps39
  go_wp2
  go_loopw [3, 4] (fun uv uk wr => ∃ k : Nat, k ≤ 16 ∧ uk = .int .i64 k ∧ w.heap.size + 1 ≤ wr.heap.size ∧ Hid (OwnB wr (w.heap.size + 1) uv (l.take k)) ∧ Hid (Blk wr w.heap.size 58 (bvs l)) ∧ Hid (Below w.heap.size w wr)) (fun _ uk _ => 16 - (intOf uk).toNat)
  case atStart => exact ⟨0, by omega, rfl, by simp, OwnB.nil _ _, Blk.new w _ _, by unfold Hid; (repeat' (first | (with_reducible exact Below.refl _ _) | (with_reducible assumption) | (with_reducible refine Below.alloc ?_ ?_ _) | (with_reducible refine Below.drew ?_) | (with_reducible refine below_dn ?_) | (with_reducible refine Below.setCell ?_ ?_ _) | (with_reducible exact Nat.le_refl _) | omega | (simp only [World.size_alloc, World.size_setCell, World.size_drew]; omega) | (simp; omega) | (simp; done)))⟩
  case round =>
    obtain ⟨k, hk, rfl, hsz, how, h0, hbe⟩ := hrel
    by_cases hlt : k < 16
    · have d0 := (h0.out.cell k).trans (bvs_at l k (by rw [HL.out]; exact hlt))
      have htk : l.take (k + 1) = l.take k ++ [l.getD k 0] := by
        rw [List.take_add_one, List.getElem?_eq_getElem (by rw [HL.out]; exact hlt), List.getD_eq_getElem?_getD, List.getElem?_eq_getElem (by rw [HL.out]; exact hlt)]
        rfl
      obtain ⟨x, hx⟩ : ∃ x, l.getD k 0 = x := ⟨_, rfl⟩
      rw [hx] at d0 htk
      have HTK := Lib.hid htk
      have hln := Lib.hid (show (l.take k).length ≤ 1000000000 by rw [List.length_take, HL.out]; omega)
      have ik : (k : Int) < 16 := by omega
      have pk : (0 : Int) ≤ (k : Int) := by omega
      clear hx htk
      go_wp2_with (at_builtin; refine wpApp rfl _ _ rfl (w.heap.size + 1) _ _ rfl how.out x _ ?hy rfl ?hlen ?hBB ?_)
      case hy => rfl
      case hlen => exact hln.out
      case hBB => exact hsz
      intro v' w2 hown' hb2
      have HO' := Lib.hid (show OwnB w2 (w.heap.size + 1) v' (l.take (k + 1)) by rw [HTK.out]; exact hown')
      have h02 := Lib.hid (h0.out.below hb2 (by omega))
      have HB2 := Lib.hid (hbe.out.trans (hb2.mono (by omega)))
      have hz2 := hb2.size
      clear hown' hb2
      go_wp2
      go_roundw
      case rel => exact ⟨k + 1, by omega, by go_num, by omega, HO', h02, HB2⟩
      case measure => simp [intOf]; omega
    · have hkn : k = 16 := by omega
      have how' := how.out
      rw [List.take_of_length_le (by rw [HL.out]; omega)] at how'
      obtain ⟨a, cap, e1, hc, hbb⟩ := OwnB.view how' HT.out
      subst e1
      have cs := conv_str l a cap wr hbb
      have BE := Lib.hid hbe.out
      clear how how' hc hbb hkn hbe
      go_wp2
      go_ret
      exact ⟨rfl, BE.out⟩
end Go.Proofs.YtjeipkoomefekaaDoor
