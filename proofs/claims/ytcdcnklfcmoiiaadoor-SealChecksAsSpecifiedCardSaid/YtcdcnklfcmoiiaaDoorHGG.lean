/- Ported from another seat (wip/hash/GG.src, by wip/port.py): contracts that this chapter calls. -/
import Derived.Test.YtcdcnklfcmoiiaaDoorHEE
namespace Go.Proofs.YtcdcnklfcmoiiaaDoor
set_option linter.unusedVariables false
set_option linter.unusedSimpArgs false
namespace Hs
open Go.RowKit
set_option maxRecDepth 100000 in
set_option maxHeartbeats 1000000 in
theorem wordsblk_any (a : Option Addr) (cap : Nat) (b : List Nat) (w : World) (hp : BytesA w a b) (hb : b.length = 64) :
    Calls Tryd.prog 108 #[.slice a 64 cap] w fun e w' => e = .returned (.agg (wvs (sched b 64))) ∧ Below w.heap.size w w' := by
  have hlt : ∀ k, b.getD k 0 < 256 := getD_lt (by decide) hp.lt
  obtain ⟨gb, off, rfl, -, -⟩ := hp 0 (by omega)
  have hcell : ∀ (W : World), Below w.heap.size w W → ∀ k, k < 64 → W.cell? ⟨gb, off + k, none⟩ = some (bv (b.getD k 0)) := fun W hW k hk => by
    obtain ⟨b', o', e, h1, -⟩ := (hp.mono hW) k (by omega)
    simp only [Option.some.injEq, Addr.mk.injEq, and_true] at e
    obtain ⟨rfl, rfl⟩ := e
    exact h1
  have HB := Lib.hid hb; have HL := Lib.hid hlt; have HC := Lib.hid hcell
  clear hb hlt hp hcell
  go_enter Tryd.func108, Tryd.ntmps108
  go_wp2
  go_loopw [4] (fun uk wr => ∃ k : Nat, k ≤ 16 ∧ uk = .int .i64 k ∧ wr.heap.size = w.heap.size + 2 ∧ Below w.heap.size w wr ∧ Hid (Blk wr w.heap.size 142 (wvs (pad 64 []))) ∧ Hid (Blk wr (w.heap.size + 1) 142 (wvs (pad 64 (sched b k))))) (fun uk _ => 16 - (intOf uk).toNat)
  case atStart =>
    refine ⟨0, by omega, rfl, by simp, by (repeat' (first | (with_reducible exact Below.refl _ _) | (with_reducible assumption) | (with_reducible refine Below.alloc ?_ ?_ _) | (with_reducible refine Below.drew ?_) | (with_reducible refine below_dn ?_) | (with_reducible refine Below.setCell ?_ ?_ _) | (with_reducible exact Nat.le_refl _) | omega | (simp only [World.size_alloc, World.size_setCell, World.size_drew]; omega) | (simp; omega) | (simp; done))), Lib.hid ((Blk.new' w _ _ _ rfl rfl).alloc _), Lib.hid (Blk.new' _ _ _ _ (by simp) rfl)⟩
  case round =>
    obtain ⟨k, hk, rfl, hsz, B, h1, h2⟩ := hrel
    by_cases hlt : k < 16
    · obtain ⟨M, hM⟩ : ∃ M, 4 * k = M := ⟨_, rfl⟩
      have l0 := HL.out M; have l1 := HL.out (M + 1); have l2 := HL.out (M + 2); have l3 := HL.out (M + 3)
      have d0 := HC.out wr B M (by omega)
      have d1 := HC.out wr B (M + 1) (by omega)
      have d2 := HC.out wr B (M + 2) (by omega)
      have d3 := HC.out wr B (M + 3) (by omega)
      have hwd : nextW b (sched b k) k = ((b.getD M 0 * 2 ^ 24 ||| b.getD (M + 1) 0 * 2 ^ 16) ||| b.getD (M + 2) 0 * 2 ^ 8) ||| b.getD (M + 3) 0 := by
        unfold nextW word
        rw [if_pos hlt, hM]
      obtain ⟨x0, e0⟩ : ∃ x, b.getD M 0 = x := ⟨_, rfl⟩
      obtain ⟨x1, e1⟩ : ∃ x, b.getD (M + 1) 0 = x := ⟨_, rfl⟩
      obtain ⟨x2, e2⟩ : ∃ x, b.getD (M + 2) 0 = x := ⟨_, rfl⟩
      obtain ⟨x3, e3⟩ : ∃ x, b.getD (M + 3) 0 = x := ⟨_, rfl⟩
      rw [e0] at l0 d0 hwd; rw [e1] at l1 d1 hwd; rw [e2] at l2 d2 hwd; rw [e3] at l3 d3 hwd
      clear e0 e1 e2 e3
      have fr := h2.out.frozen k
      have dk := (h2.out.cell k).trans (wvs_at _ k (by rw [pad_len _ _ (by rw [sched_len]; omega)]; omega))
      obtain ⟨od, hod⟩ : ∃ x, (pad 64 (sched b k)).getD k 0 = x := ⟨_, rfl⟩
      rw [hod] at dk
      have v0 : IntKind.i64.wrap (4 * (k : Int)) = (M : Int) := by rw [IntKind.wrap_i64]; omega
      have v1 : IntKind.i64.wrap ((M : Int) + 1) = (M : Int) + 1 := by rw [IntKind.wrap_i64]; omega
      have v2 : IntKind.i64.wrap ((M : Int) + 2) = (M : Int) + 2 := by rw [IntKind.wrap_i64]; omega
      have v3 : IntKind.i64.wrap ((M : Int) + 3) = (M : Int) + 3 := by rw [IntKind.wrap_i64]; omega
      have u1 : ((M : Int) + 1).toNat = M + 1 := by omega
      have u2 : ((M : Int) + 2).toNat = M + 2 := by omega
      have u3 : ((M : Int) + 3).toNat = M + 3 := by omega
      have p1 : (0 : Int) ≤ (M : Int) + 1 := by omega
      have p2 : (0 : Int) ≤ (M : Int) + 2 := by omega
      have p3 : (0 : Int) ≤ (M : Int) + 3 := by omega
      have b0 : (M : Int) < 64 := by omega
      have p0 : (0 : Int) ≤ (M : Int) := by omega
      have bk : (k : Int) < 64 := by omega
      have pk : (0 : Int) ≤ (k : Int) := by omega
      have b1 : (M : Int) + 1 < 64 := by omega
      have b2 : (M : Int) + 2 < 64 := by omega
      have b3 : (M : Int) + 3 < 64 := by omega
      have hv := word_val x0 x1 x2 x3 l0 l1 l2 l3
      rw [← hwd] at hv
      obtain ⟨y, hy⟩ : ∃ y, nextW b (sched b k) k = y := ⟨_, rfl⟩
      rw [hy] at hv
      have HY := Lib.hid hy
      clear hM hod hwd hy l0 l1 l2 l3
      go_wp2
      refine wp_region_still_tail 35 (by kernel_rfl) (by kernel_rfl) ?_
      simp only [List.take_succ_cons, List.take_zero, List.drop_succ_cons, List.drop_zero]
      show wpStill _ _ (World.drew _) _ _ _
      repeat still_step
      refine wpStill_nil ?_
      show wpList _ _ _ _ _ (World.drew _)
      go_wp2
      go_roundw
      case rel =>
        refine ⟨k + 1, by omega, by go_num, by simp [hsz], by (repeat' (first | (with_reducible exact Below.refl _ _) | (with_reducible assumption) | (with_reducible refine Below.alloc ?_ ?_ _) | (with_reducible refine Below.drew ?_) | (with_reducible refine below_dn ?_) | (with_reducible refine Below.setCell ?_ ?_ _) | (with_reducible exact Nat.le_refl _) | omega | (simp only [World.size_alloc, World.size_setCell, World.size_drew]; omega) | (simp; omega) | (simp; done))), Lib.hid (h1.out.drew.far (by simp) _), Lib.hid ?_⟩
        have := h2.out.set_ k (wv y)
        rw [wvs_set] at this
        have e := pad_set 64 (sched b k) y (by rw [sched_len]; omega)
        rw [sched_len] at e
        rw [e] at this
        rw [sched, HY.out]
        exact this.drew
      case measure => simp [intOf]; omega
    · have KE := Lib.hid (show k = 16 by omega)
      clear hk
      go_wp2
      go_loopw [5, 6, 7] (fun uk u6 u7 wr => ∃ j : Nat, 16 ≤ j ∧ j ≤ 64 ∧ uk = .int .i64 j ∧ wr.heap.size = w.heap.size + 2 ∧ Below w.heap.size w wr ∧ Hid (Blk wr w.heap.size 142 (wvs (pad 64 []))) ∧ Hid (Blk wr (w.heap.size + 1) 142 (wvs (pad 64 (sched b j))))) (fun uk _ _ _ => 64 - (intOf uk).toNat)
      case atStart => exact ⟨16, by omega, by omega, rfl, hsz, B, h1, by rw [KE.out] at h2; exact h2⟩
      case round =>
        clear hsz B h1 h2
        obtain ⟨j, hk16, hk, rfl, hsz, B, h1, h2⟩ := hrel
        by_cases hlt : j < 64
        · have LS := getD_lt (by decide : 0 < 4294967296) (sched_lt b HL.out j)
          have cell := fun A (hA : A < 64) => ((h2.out.cell A).trans (wvs_at _ A (by rw [pad_len _ _ (by rw [sched_len]; omega)]; exact hA))).trans (by rw [pad_at])
          obtain ⟨A, hA⟩ : ∃ A, j = A + 15 := ⟨j - 15, by omega⟩
          obtain ⟨C, hC⟩ : ∃ C, j = C + 2 := ⟨j - 2, by omega⟩
          obtain ⟨D, hD⟩ : ∃ D, j = D + 16 := ⟨j - 16, by omega⟩
          obtain ⟨E, hE⟩ : ∃ E, j = E + 7 := ⟨j - 7, by omega⟩
          have vA : IntKind.i64.wrap ((j : Int) - 15) = (A : Int) := by rw [IntKind.wrap_i64]; omega
          have vC : IntKind.i64.wrap ((j : Int) - 2) = (C : Int) := by rw [IntKind.wrap_i64]; omega
          have vD : IntKind.i64.wrap ((j : Int) - 16) = (D : Int) := by rw [IntKind.wrap_i64]; omega
          have vE : IntKind.i64.wrap ((j : Int) - 7) = (E : Int) := by rw [IntKind.wrap_i64]; omega
          have hnx : nextW b (sched b j) j = add32 (add32 (add32 ((sched b j).getD D 0) (sg0 ((sched b j).getD A 0))) ((sched b j).getD E 0)) (sg1 ((sched b j).getD C 0)) := by
            unfold nextW
            rw [if_neg (by omega), show j - 16 = D by omega, show j - 15 = A by omega, show j - 7 = E by omega, show j - 2 = C by omega]
          have dA := cell A (by omega); have dC := cell C (by omega); have dD := cell D (by omega); have dE := cell E (by omega)
          have dk := cell j hlt
          have fr := h2.out.frozen j
          have lA := LS A; have lC := LS C; have lD := LS D; have lE := LS E
          obtain ⟨xA, eA⟩ : ∃ x, (sched b j).getD A 0 = x := ⟨_, rfl⟩
          obtain ⟨xC, eC⟩ : ∃ x, (sched b j).getD C 0 = x := ⟨_, rfl⟩
          obtain ⟨xD, eD⟩ : ∃ x, (sched b j).getD D 0 = x := ⟨_, rfl⟩
          obtain ⟨xE, eE⟩ : ∃ x, (sched b j).getD E 0 = x := ⟨_, rfl⟩
          obtain ⟨xk, ek⟩ : ∃ x, (sched b j).getD j 0 = x := ⟨_, rfl⟩
          rw [eA] at dA lA hnx; rw [eC] at dC lC hnx; rw [eD] at dD lD hnx; rw [eE] at dE lE hnx; rw [ek] at dk
          clear eA eC eD eE ek LS cell
          have iA : (A : Int) < 64 := by omega
          have iC : (C : Int) < 64 := by omega
          have iD : (D : Int) < 64 := by omega
          have iE : (E : Int) < 64 := by omega
          have ik : (j : Int) < 64 := by omega
          have pA : (0 : Int) ≤ (A : Int) := by omega
          have pC : (0 : Int) ≤ (C : Int) := by omega
          have pD : (0 : Int) ≤ (D : Int) := by omega
          have pE : (0 : Int) ≤ (E : Int) := by omega
          have pk : (0 : Int) ≤ (j : Int) := by omega
          have q1 := sg0_val xA lA
          have q2 := sg1_val xC lC
          have g1 := rotr_lt xA 7 lA
          have c7 := Lib.hid (fun W : World => rotref7 xA W lA)
          have c18 := Lib.hid (fun W : World => rotref18 xA W lA)
          have c17 := Lib.hid (fun W : World => rotref17 xC W lC)
          have c19 := Lib.hid (fun W : World => rotref19 xC W lC)
          obtain ⟨r7, e7⟩ : ∃ r, rotr xA 7 = r := ⟨_, rfl⟩
          obtain ⟨r18, e18⟩ : ∃ r, rotr xA 18 = r := ⟨_, rfl⟩
          obtain ⟨r17, e17⟩ : ∃ r, rotr xC 17 = r := ⟨_, rfl⟩
          obtain ⟨r19, e19⟩ : ∃ r, rotr xC 19 = r := ⟨_, rfl⟩
          obtain ⟨S0, hS0⟩ : ∃ r, sg0 xA = r := ⟨_, rfl⟩
          obtain ⟨S1, hS1⟩ : ∃ r, sg1 xC = r := ⟨_, rfl⟩
          rw [e7] at c7 q1; rw [e18] at c18 q1; rw [e17] at c17 q2; rw [e19] at c19 q2
          rw [hS0] at q1 hnx; rw [hS1] at q2 hnx
          have q3 := sum4_val xD S0 xE S1
          rw [← hnx] at q3
          obtain ⟨y, hy⟩ : ∃ y, nextW b (sched b j) j = y := ⟨_, rfl⟩
          rw [hy] at q3
          have HY := Lib.hid hy
          have KA := Lib.hid hA
          clear hA hC hD hE hnx hy e7 e18 e17 e19 hS0 hS1 g1 lA lC lD lE
          go_wp2
          go_quiet ((go_at_call 109; first | (with_reducible exact Calls.quiet_of (c7.out _)) | (with_reducible exact Calls.quiet_of (c18.out _))))
          go_wp2
          generalize hWX : World.drewN wr _ = wx
          have h1 : Hid (Blk wx w.heap.size 142 (wvs (pad 64 []))) := Lib.hid (by rw [← hWX]; exact h1.out.drewN _)
          have h2 : Hid (Blk wx (w.heap.size + 1) 142 (wvs (pad 64 (sched b j)))) := Lib.hid (by rw [← hWX]; exact h2.out.drewN _)
          have hsz : wx.heap.size = w.heap.size + 2 := by rw [← hWX]; exact hsz
          have B : Below w.heap.size w wx := by rw [← hWX]; exact below_dn B
          have dC : wx.cell? ⟨w.heap.size + 1, C, none⟩ = some (wv xC) := by rw [← hWX]; exact dC
          have dD : wx.cell? ⟨w.heap.size + 1, D, none⟩ = some (wv xD) := by rw [← hWX]; exact dD
          have dE : wx.cell? ⟨w.heap.size + 1, E, none⟩ = some (wv xE) := by rw [← hWX]; exact dE
          have dk : wx.cell? ⟨w.heap.size + 1, j, none⟩ = some (wv xk) := by rw [← hWX]; exact dk
          have fr : wx.frozen? ⟨w.heap.size + 1, j, none⟩ = false := by rw [← hWX]; exact fr
          clear hWX
          go_quiet ((go_at_call 109; first | (with_reducible exact Calls.quiet_of (c17.out _)) | (with_reducible exact Calls.quiet_of (c19.out _))))
          go_wp2
          refine wp_region_still_tail 15 (by kernel_rfl) (by kernel_rfl) ?_
          simp only [List.take_succ_cons, List.take_zero, List.drop_succ_cons, List.drop_zero]
          show wpStill _ _ (World.drew _) _ _ _
          repeat still_step
          refine wpStill_nil ?_
          show wpList _ _ _ _ _ (World.drew _)
          go_wp2
          go_roundw
          case rel =>
            refine ⟨j + 1, by omega, by omega, by go_num, ?_, ?_, ?_, ?_⟩
            · simp [hsz]
            · (repeat' (first | (with_reducible exact Below.refl _ _) | (with_reducible assumption) | (with_reducible refine Below.alloc ?_ ?_ _) | (with_reducible refine Below.drew ?_) | (with_reducible refine below_dn ?_) | (with_reducible refine Below.setCell ?_ ?_ _) | (with_reducible exact Nat.le_refl _) | omega | (simp only [World.size_alloc, World.size_setCell, World.size_drew]; omega) | (simp; omega) | (simp; done)))
            · refine Lib.hid ?_
              exact ((h1.out.far (by simp) _).drewN _)
            · refine Lib.hid ?_
              have := h2.out.set_ j (wv y)
              rw [wvs_set] at this
              have e := pad_set 64 (sched b j) y (by rw [sched_len]; omega)
              rw [sched_len] at e
              rw [e] at this
              rw [sched, HY.out]
              exact this.drewN _
          case measure => simp [intOf]; omega
        · obtain rfl : j = 64 := by omega
          rw [pad_full _ _ (sched_len b 64)] at h2
          have ia : (Tryd.prog.info? 142).map (·.size) = some (wvs (sched b 64)).size := by rw [wvs_size, sched_len]; kernel_rfl
          have sz : (wvs (pad 64 [])).size = (wvs (sched b 64)).size := by rw [wvs_size, wvs_size, sched_len]; rfl
          have IA := Lib.hid ia; have SZ := Lib.hid sz
          clear ia sz
          go_wp2_with (first | (with_reducible refine wpList_load_blk rfl _ _ rfl _ rfl 142 _ _ _ h2.out Tryd.underlying142 IA.out ?_) | (with_reducible refine wpList_store_blk rfl _ _ _ rfl _ 142 _ _ rfl rfl h1.out IA.out SZ.out (wvs_one _) rfl ?_))
          refine bodyPost_ret (v := .agg (wvs (sched b 64))) (results_cell_row rfl _ _ _ 142 _ (0, 0) _ rfl (h1.out.row_ _) Tryd.underlying142 rfl IA.out) rfl ⟨rfl, ?_⟩
          exact below_setRow B (by omega) _
end Hs
end Go.Proofs.YtcdcnklfcmoiiaaDoor
