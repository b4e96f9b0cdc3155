/- Contracts: SealStamp and SealHead of the program. -/
import Derived.Test.YtcdcnklfcmoiiaaDoorQPT
import Derived.Deep.RegionHeld
namespace Go.Proofs.YtcdcnklfcmoiiaaDoor
set_option linter.unusedVariables false
set_option linter.unusedSimpArgs false
open Go.RowKit Go.Sort
set_option maxRecDepth 100000 in
set_option maxHeartbeats 1000000 in
theorem sealHead_any (k : Rw) (si sz lo hi se : Int) (B : List Nat) (S : List Nat) (w : World) (hB : B.length = 16) (hS : S.length = 16) (hb : ∀ x ∈ B, x < 256) (hsi : i64Ok si) (hsz : i64Ok sz) (hlo : i64Ok lo) (hhi : i64Ok hi) (hse : i64Ok se) (hk : i64Ok k.1 ∧ i64Ok k.2.1) (hs : k.2.2.1.size ≤ 400) (hla : Hs.LaidC w) :
    Calls Tryd.prog 45 #[.agg (encR k).toArray, .agg (recC [.int .i64 si, .int .i64 sz] B [.int .i64 lo, .int .i64 hi, .int .i64 se] S)] w fun e w' => e = .returned (.agg (recC [.int .i64 si, .int .i64 sz] B [.int .i64 lo, .int .i64 hi, .int .i64 k.2.1] (mkS 44 k.2.2.1 (headP si sz lo hi k.2.1 B)))) ∧ Below w.heap.size w w' := by
  have HLA := Lib.hid hla
  have hk1 : i64Ok k.1 := hk.1
  have hk2 : i64Ok k.2.1 := hk.2
  obtain ⟨k1, k2, k3, k4, k5⟩ := k
  simp only at hs hk1 hk2
  skip
  have HP := Lib.hid (fun (X : World) => headParts_any si sz lo hi k2 B S X hB hb hsi hsz hlo hhi hk2)
  have PS := headP_le hB hsi hsz hlo hhi hk2
  have hpl : (headP si sz lo hi k2 B).length = 2 := rfl
  have hpn : (headP si sz lo hi k2 B).length ≤ 36 := by rw [hpl]; omega
  have HM := Lib.hid (fun (a : Option Addr) (c : Nat) (X : World) (h : StR X a (headP si sz lo hi k2 B)) (hla : Hs.LaidC X) => make_any (k1, k2, k3, k4, k5) 44 44 a c (headP si sz lo hi k2 B) X rfl h ⟨hpn, PS⟩ hs hla)
  simp only [encR, hpl, List.cons_append, List.nil_append] at HM
  simp only [encR]
  obtain ⟨P, hP⟩ : ∃ P, headP si sz lo hi k2 B = P := ⟨_, rfl⟩
  skip
  simp only [hP] at HM HP
  rw [hP]
  obtain ⟨V, hV⟩ : ∃ V, mkS 44 k3 P = V := ⟨_, rfl⟩
  have hVl : V.length = 16 := by rw [← hV]; exact mkS_len _ _ _
  simp only [hV] at HM
  rw [hV]
  have VI := Lib.hid (show (Tryd.prog.info? 50).map (·.size) = some (Hs.bvs V).size by rw [Hs.bvs_size, hVl]; kernel_rfl)
  have VO := Lib.hid (Hs.bvs_one V)
  have VF := Lib.hid (show 21 + (Hs.bvs V).size ≤ (recL [.int .i64 si, .int .i64 sz] B [.int .i64 lo, .int .i64 hi, .int .i64 k2] S).length by rw [Hs.bvs_size, hVl]; unfold recL; simp [hB, hS])
  have VS := Lib.hid (rec_splice [.int .i64 si, .int .i64 sz] B [.int .i64 lo, .int .i64 hi, .int .i64 k2] S V hB hS hVl 21 rfl)
  have LI := Lib.hid (show (Tryd.prog.info? 66).map (·.size) = some (recC [.int .i64 si, .int .i64 sz] B [.int .i64 lo, .int .i64 hi, .int .i64 k2] S).size by rw [rec_size _ _ _ _ hB hS]; kernel_rfl)
  have LJ := Lib.hid (show (Tryd.prog.info? 66).map (·.size) = some (recC [.int .i64 si, .int .i64 sz] B [.int .i64 lo, .int .i64 hi, .int .i64 k2] V).size by rw [rec_size _ _ _ _ hB hVl]; kernel_rfl)
  have LS := Lib.hid (show (#[.int .i64 0, .int .i64 0, .int .u8 0, .int .u8 0, .int .u8 0, .int .u8 0, .int .u8 0, .int .u8 0, .int .u8 0, .int .u8 0, .int .u8 0, .int .u8 0, .int .u8 0, .int .u8 0, .int .u8 0, .int .u8 0, .int .u8 0, .int .u8 0, .int .i64 0, .int .i64 0, .int .i64 0, .int .u8 0, .int .u8 0, .int .u8 0, .int .u8 0, .int .u8 0, .int .u8 0, .int .u8 0, .int .u8 0, .int .u8 0, .int .u8 0, .int .u8 0, .int .u8 0, .int .u8 0, .int .u8 0, .int .u8 0, .int .u8 0] : Array Value).size = (recC [.int .i64 si, .int .i64 sz] B [.int .i64 lo, .int .i64 hi, .int .i64 k2] V).size by rw [rec_size _ _ _ _ hB hVl]; rfl)
  have LO := Lib.hid (rec_one [.int .i64 si, .int .i64 sz] B [.int .i64 lo, .int .i64 hi, .int .i64 k2] V rfl rfl)
  have KI := Lib.hid (show (Tryd.prog.info? 24).map (·.size) = some (#[.int .i64 k1, .int .i64 k2, .string k3, .int .i64 k4, .int .i64 k5] : Array Value).size from by kernel_rfl)
  have HB := Lib.hid hB
  have ST0 := Lib.hid (rec_set [.int .i64 si, .int .i64 sz] B [.int .i64 lo, .int .i64 hi, .int .i64 se] S hB 20 2 (.int .i64 k2) rfl (by simp))
  simp only [List.set_cons_zero, List.set_cons_succ] at ST0
  clear hla hk hk1 hk2 hs PS hP hV hVl hB hS hb hpl hpn hsi hsz hlo hhi hse
  obtain ⟨C, hC⟩ : ∃ C, (recC [.int .i64 si, .int .i64 sz] B [.int .i64 lo, .int .i64 hi, .int .i64 se] S) = C := ⟨_, rfl⟩
  obtain ⟨G, hG⟩ : ∃ G, w.heap.size = G := ⟨_, rfl⟩
  have HG := Lib.hid hG
  have Kk := Lib.hid (show Blk (((w.alloc (.cells #[.int .i64 k1, .int .i64 k2, .string k3, .int .i64 k4, .int .i64 k5] 24)).alloc (.cells C 66)).alloc (.cells #[.int .i64 0, .int .i64 0, .int .u8 0, .int .u8 0, .int .u8 0, .int .u8 0, .int .u8 0, .int .u8 0, .int .u8 0, .int .u8 0, .int .u8 0, .int .u8 0, .int .u8 0, .int .u8 0, .int .u8 0, .int .u8 0, .int .u8 0, .int .u8 0, .int .i64 0, .int .i64 0, .int .i64 0, .int .u8 0, .int .u8 0, .int .u8 0, .int .u8 0, .int .u8 0, .int .u8 0, .int .u8 0, .int .u8 0, .int .u8 0, .int .u8 0, .int .u8 0, .int .u8 0, .int .u8 0, .int .u8 0, .int .u8 0, .int .u8 0] 66)) G 24 #[.int .i64 k1, .int .i64 k2, .string k3, .int .i64 k4, .int .i64 k5] from ((Blk.new' w _ _ _ hG rfl).alloc _).alloc _)
  have Kx := Lib.hid (show Blk (((w.alloc (.cells #[.int .i64 k1, .int .i64 k2, .string k3, .int .i64 k4, .int .i64 k5] 24)).alloc (.cells C 66)).alloc (.cells #[.int .i64 0, .int .i64 0, .int .u8 0, .int .u8 0, .int .u8 0, .int .u8 0, .int .u8 0, .int .u8 0, .int .u8 0, .int .u8 0, .int .u8 0, .int .u8 0, .int .u8 0, .int .u8 0, .int .u8 0, .int .u8 0, .int .u8 0, .int .u8 0, .int .i64 0, .int .i64 0, .int .i64 0, .int .u8 0, .int .u8 0, .int .u8 0, .int .u8 0, .int .u8 0, .int .u8 0, .int .u8 0, .int .u8 0, .int .u8 0, .int .u8 0, .int .u8 0, .int .u8 0, .int .u8 0, .int .u8 0, .int .u8 0, .int .u8 0] 66)) (G + 1) 66 (recC [.int .i64 si, .int .i64 sz] B [.int .i64 lo, .int .i64 hi, .int .i64 se] S) from by rw [hC]; exact (Blk.new' _ _ _ _ (by rw [World.size_alloc, hG]) rfl).alloc _)
  have Kr := Lib.hid (show Blk (((w.alloc (.cells #[.int .i64 k1, .int .i64 k2, .string k3, .int .i64 k4, .int .i64 k5] 24)).alloc (.cells C 66)).alloc (.cells #[.int .i64 0, .int .i64 0, .int .u8 0, .int .u8 0, .int .u8 0, .int .u8 0, .int .u8 0, .int .u8 0, .int .u8 0, .int .u8 0, .int .u8 0, .int .u8 0, .int .u8 0, .int .u8 0, .int .u8 0, .int .u8 0, .int .u8 0, .int .u8 0, .int .i64 0, .int .i64 0, .int .i64 0, .int .u8 0, .int .u8 0, .int .u8 0, .int .u8 0, .int .u8 0, .int .u8 0, .int .u8 0, .int .u8 0, .int .u8 0, .int .u8 0, .int .u8 0, .int .u8 0, .int .u8 0, .int .u8 0, .int .u8 0, .int .u8 0] 66)) (G + 1 + 1) 66 #[.int .i64 0, .int .i64 0, .int .u8 0, .int .u8 0, .int .u8 0, .int .u8 0, .int .u8 0, .int .u8 0, .int .u8 0, .int .u8 0, .int .u8 0, .int .u8 0, .int .u8 0, .int .u8 0, .int .u8 0, .int .u8 0, .int .u8 0, .int .u8 0, .int .i64 0, .int .i64 0, .int .i64 0, .int .u8 0, .int .u8 0, .int .u8 0, .int .u8 0, .int .u8 0, .int .u8 0, .int .u8 0, .int .u8 0, .int .u8 0, .int .u8 0, .int .u8 0, .int .u8 0, .int .u8 0, .int .u8 0, .int .u8 0, .int .u8 0] from Blk.new' _ _ _ _ (by rw [World.size_alloc, World.size_alloc, hG]) rfl)
  have B0 := Lib.hid (show Below w.heap.size w (((w.alloc (.cells #[.int .i64 k1, .int .i64 k2, .string k3, .int .i64 k4, .int .i64 k5] 24)).alloc (.cells C 66)).alloc (.cells #[.int .i64 0, .int .i64 0, .int .u8 0, .int .u8 0, .int .u8 0, .int .u8 0, .int .u8 0, .int .u8 0, .int .u8 0, .int .u8 0, .int .u8 0, .int .u8 0, .int .u8 0, .int .u8 0, .int .u8 0, .int .u8 0, .int .u8 0, .int .u8 0, .int .i64 0, .int .i64 0, .int .i64 0, .int .u8 0, .int .u8 0, .int .u8 0, .int .u8 0, .int .u8 0, .int .u8 0, .int .u8 0, .int .u8 0, .int .u8 0, .int .u8 0, .int .u8 0, .int .u8 0, .int .u8 0, .int .u8 0, .int .u8 0, .int .u8 0] 66)) by (repeat' (first | (with_reducible exact Below.refl _ _) | (with_reducible assumption) | (with_reducible refine Below.alloc ?_ ?_ _) | (with_reducible refine Below.drew ?_) | (with_reducible refine below_dn ?_) | (with_reducible refine Below.setCell ?_ ?_ _) | (with_reducible exact Nat.le_refl _) | omega | (simp only [World.size_alloc, World.size_setCell, World.size_drew]; omega) | (simp; omega) | (simp; done))))
  rw [hC]
  clear hC
  go_enter Tryd.func45, Tryd.ntmps45
  go_upto_region 1 with (fail)
  try rw [hG]
  generalize hw0 : (((w.alloc (.cells #[.int .i64 k1, .int .i64 k2, .string k3, .int .i64 k4, .int .i64 k5] 24)).alloc (.cells C 66)).alloc (.cells #[.int .i64 0, .int .i64 0, .int .u8 0, .int .u8 0, .int .u8 0, .int .u8 0, .int .u8 0, .int .u8 0, .int .u8 0, .int .u8 0, .int .u8 0, .int .u8 0, .int .u8 0, .int .u8 0, .int .u8 0, .int .u8 0, .int .u8 0, .int .u8 0, .int .i64 0, .int .i64 0, .int .i64 0, .int .u8 0, .int .u8 0, .int .u8 0, .int .u8 0, .int .u8 0, .int .u8 0, .int .u8 0, .int .u8 0, .int .u8 0, .int .u8 0, .int .u8 0, .int .u8 0, .int .u8 0, .int .u8 0, .int .u8 0, .int .u8 0] 66)) = w0 at Kk Kx Kr B0 ⊢
  clear hw0 hG
  obtain ⟨t0, t1, t2, t3, t4⟩ := five Kk.out
  obtain ⟨xa0, xa1, xc0, xc1, xc2⟩ := head_cells HB.out Kx.out
  have fx := fun q => Kx.out.frozen q
  replace Kx := Lib.hid (show Blk (w0.setCell ⟨G + 1, 20, none⟩ (.int .i64 k2)) (G + 1) 66 (recC [.int .i64 si, .int .i64 sz] B [.int .i64 lo, .int .i64 hi, .int .i64 k2] S) from by have h := Kx.out.set_ 20 (.int .i64 k2); rw [ST0.out] at h; exact h)
  replace Kk := Lib.hid (show Blk (w0.setCell ⟨G + 1, 20, none⟩ (.int .i64 k2)) G 24 #[.int .i64 k1, .int .i64 k2, .string k3, .int .i64 k4, .int .i64 k5] from Kk.out.far (p := ⟨G + 1, 20, none⟩) (by simp) (.int .i64 k2))
  replace Kr := Lib.hid (show Blk (w0.setCell ⟨G + 1, 20, none⟩ (.int .i64 k2)) (G + 1 + 1) 66 #[.int .i64 0, .int .i64 0, .int .u8 0, .int .u8 0, .int .u8 0, .int .u8 0, .int .u8 0, .int .u8 0, .int .u8 0, .int .u8 0, .int .u8 0, .int .u8 0, .int .u8 0, .int .u8 0, .int .u8 0, .int .u8 0, .int .u8 0, .int .u8 0, .int .i64 0, .int .i64 0, .int .i64 0, .int .u8 0, .int .u8 0, .int .u8 0, .int .u8 0, .int .u8 0, .int .u8 0, .int .u8 0, .int .u8 0, .int .u8 0, .int .u8 0, .int .u8 0, .int .u8 0, .int .u8 0, .int .u8 0, .int .u8 0, .int .u8 0] from Kr.out.far (p := ⟨G + 1, 20, none⟩) (by simp) (.int .i64 k2))
  replace B0 := Lib.hid (show Below w.heap.size w (w0.setCell ⟨G + 1, 20, none⟩ (.int .i64 k2)) from B0.out.setCell (p := ⟨G + 1, 20, none⟩) (show w.heap.size ≤ G + 1 by have := HG.out; omega) (.int .i64 k2))
  go_upto_region 2 with (fail)
  generalize hw1 : (w0.setCell ⟨G + 1, 20, none⟩ (.int .i64 k2)) = w1 at Kk Kx Kr B0 ⊢
  clear hw1 t0 t1 t2 t3 t4 xa0 xa1 xc0 xc1 xc2 fx ST0
  skip
  refine wp_region_held_drew (S := fun W => Blk W G 24 #[.int .i64 k1, .int .i64 k2, .string k3, .int .i64 k4, .int .i64 k5]) (by kernel_rfl) Kk.out.drew (fun hHeld => ?_)
  replace Kx := Lib.hid Kx.out.drew
  replace Kk := Lib.hid Kk.out.drew
  replace Kr := Lib.hid Kr.out.drew
  replace B0 := Lib.hid B0.out.drew
  generalize w1.drew = wc at Kx Kk Kr B0 hHeld ⊢
  refine wpAnyH_take (i := 0) (v := .agg #[.int .i64 k1, .int .i64 k2, .string k3, .int .i64 k4, .int .i64 k5]) rfl (by kernel_rfl) (by kernel_rfl) (by kernel_rfl) (fun _ _ _ h => h) (Or.inl ⟨by rfl, fun W hW => exec_load_row 24 _ rfl G rfl 24 #[.int .i64 k1, .int .i64 k2, .string k3, .int .i64 k4, .int .i64 k5] (0, 0) _ hW Tryd.underlying24 rfl KI.out⟩) (by assumption) ?_
  (try simp only [Act.put, List.getElem_toArray, List.getElem_cons_succ, List.getElem_cons_zero, List.setIfInBounds_toArray, List.set_cons_zero, List.set_cons_succ])
  refine wpAnyH_ready (rs := [1]) (by kernel_rfl) (by simp) (AllReadyH.cons rfl (fun K hK => ?_) AllReadyH.nil)
  rw [if_pos (by rfl)]
  refine wp_load_row 66 _ rfl (G + 1) rfl 66 (recC [.int .i64 si, .int .i64 sz] B [.int .i64 lo, .int .i64 hi, .int .i64 k2] S) _ Kx.out Tryd.underlying66 rfl LI.out ?_
  refine hK _ _ hHeld (fun hHeld1 => ?_)
  clear hK K
  (try simp only [Act.put, List.getElem_toArray, List.getElem_cons_succ, List.getElem_cons_zero, List.setIfInBounds_toArray, List.set_cons_zero, List.set_cons_succ])
  refine wpAnyH_ready (rs := [2]) (by kernel_rfl) (by simp) (AllReadyH.cons rfl (fun K hK => ?_) AllReadyH.nil)
  go_simp
  refine (HP.out _).mono ?_
  rintro e w3 ⟨⟨a, c, rfl, hr⟩, hb⟩
  have HR := Lib.hid hr
  replace Kx := Lib.hid (Kx.out.below hb Kx.out.lt)
  replace Kk := Lib.hid (Kk.out.below hb Kk.out.lt)
  replace Kr := Lib.hid (Kr.out.below hb Kr.out.lt)
  replace B0 := Lib.hid (B0.out.trans (hb.mono B0.out.size))
  clear hb hr
  go_wp2_with fail
  refine hK _ _ Kk.out (fun hHeld2 => ?_)
  clear hK K
  (try simp only [Act.put, List.getElem_toArray, List.getElem_cons_succ, List.getElem_cons_zero, List.setIfInBounds_toArray, List.set_cons_zero, List.set_cons_succ])
  refine wpAnyH_ready (rs := [3]) (by kernel_rfl) (by simp) (AllReadyH.cons rfl (fun K hK => ?_) AllReadyH.nil)
  go_simp
  refine (HM.out a c _ HR.out (HLA.out.mono B0.out)).mono ?_
  rintro e w4 ⟨rfl, hb⟩
  replace Kx := Lib.hid (Kx.out.below hb Kx.out.lt)
  replace Kk := Lib.hid (Kk.out.below hb Kk.out.lt)
  replace Kr := Lib.hid (Kr.out.below hb Kr.out.lt)
  replace B0 := Lib.hid (B0.out.trans (hb.mono B0.out.size))
  clear hb
  go_wp2_with fail
  refine hK _ _ Kk.out (fun hHeld3 => ?_)
  clear hK K
  (try simp only [Act.put, List.getElem_toArray, List.getElem_cons_succ, List.getElem_cons_zero, List.setIfInBounds_toArray, List.set_cons_zero, List.set_cons_succ])
  refine wpAnyH_take (i := 4) (v := .pointer (some ⟨G + 1, 21, none⟩)) rfl (by kernel_rfl) (by kernel_rfl) (by kernel_rfl) (fun _ _ _ h => h) (Or.inl ⟨by rfl, fun W hW => by go_simp⟩) (by assumption) ?_
  (try simp only [Act.put, List.getElem_toArray, List.getElem_cons_succ, List.getElem_cons_zero, List.setIfInBounds_toArray, List.set_cons_zero, List.set_cons_succ])
  refine wpAnyH_ready (rs := [5]) (by kernel_rfl) (by simp) (AllReadyH.cons rfl (fun K hK => ?_) AllReadyH.nil)
  rw [if_pos (by rfl)]
  refine wp_store_mid 50 _ _ rfl (G + 1) 21 66 (recL [.int .i64 si, .int .i64 sz] B [.int .i64 lo, .int .i64 hi, .int .i64 k2] S) (Hs.bvs V) rfl rfl Kx.out VI.out VF.out VO.out rfl ?_
  rw [VS.out]
  have Kx5 := Lib.hid (show Blk (w4.setRow (G + 1) (recL [.int .i64 si, .int .i64 sz] B [.int .i64 lo, .int .i64 hi, .int .i64 k2] V).toArray) (G + 1) 66 (recC [.int .i64 si, .int .i64 sz] B [.int .i64 lo, .int .i64 hi, .int .i64 k2] V) from Kx.out.row_ _)
  have Kk5 := Lib.hid (show Blk (w4.setRow (G + 1) (recL [.int .i64 si, .int .i64 sz] B [.int .i64 lo, .int .i64 hi, .int .i64 k2] V).toArray) G 24 #[.int .i64 k1, .int .i64 k2, .string k3, .int .i64 k4, .int .i64 k5] from Kk.out.rowfar (by omega) _)
  have Kr5 := Lib.hid (show Blk (w4.setRow (G + 1) (recL [.int .i64 si, .int .i64 sz] B [.int .i64 lo, .int .i64 hi, .int .i64 k2] V).toArray) (G + 1 + 1) 66 #[.int .i64 0, .int .i64 0, .int .u8 0, .int .u8 0, .int .u8 0, .int .u8 0, .int .u8 0, .int .u8 0, .int .u8 0, .int .u8 0, .int .u8 0, .int .u8 0, .int .u8 0, .int .u8 0, .int .u8 0, .int .u8 0, .int .u8 0, .int .u8 0, .int .i64 0, .int .i64 0, .int .i64 0, .int .u8 0, .int .u8 0, .int .u8 0, .int .u8 0, .int .u8 0, .int .u8 0, .int .u8 0, .int .u8 0, .int .u8 0, .int .u8 0, .int .u8 0, .int .u8 0, .int .u8 0, .int .u8 0, .int .u8 0, .int .u8 0] from Kr.out.rowfar (by omega) _)
  have B5 := Lib.hid (show Below w.heap.size w (w4.setRow (G + 1) (recL [.int .i64 si, .int .i64 sz] B [.int .i64 lo, .int .i64 hi, .int .i64 k2] V).toArray) from below_setRow B0.out (show w.heap.size ≤ G + 1 by have := HG.out; omega) _)
  refine hK _ _ Kk5.out (fun hHeld4 => ?_)
  clear hK K
  (try simp only [Act.put, List.getElem_toArray, List.getElem_cons_succ, List.getElem_cons_zero, List.setIfInBounds_toArray, List.set_cons_zero, List.set_cons_succ])
  refine wpAnyH_done (by kernel_rfl) ?_ _
  generalize (w4.setRow (G + 1) (recL [.int .i64 si, .int .i64 sz] B [.int .i64 lo, .int .i64 hi, .int .i64 k2] V).toArray) = w5 at Kx5 Kr5 B5 ⊢
  have Hx := Lib.hid (show Hs.Blk w5 (G + 1) 66 (recC [.int .i64 si, .int .i64 sz] B [.int .i64 lo, .int .i64 hi, .int .i64 k2] V) from Kx5.out)
  have Hr := Lib.hid (show Hs.Blk w5 (G + 1 + 1) 66 #[.int .i64 0, .int .i64 0, .int .u8 0, .int .u8 0, .int .u8 0, .int .u8 0, .int .u8 0, .int .u8 0, .int .u8 0, .int .u8 0, .int .u8 0, .int .u8 0, .int .u8 0, .int .u8 0, .int .u8 0, .int .u8 0, .int .u8 0, .int .u8 0, .int .i64 0, .int .i64 0, .int .i64 0, .int .u8 0, .int .u8 0, .int .u8 0, .int .u8 0, .int .u8 0, .int .u8 0, .int .u8 0, .int .u8 0, .int .u8 0, .int .u8 0, .int .u8 0, .int .u8 0, .int .u8 0, .int .u8 0, .int .u8 0, .int .u8 0] from Kr5.out)
  go_wp2_with (first | (with_reducible refine Hs.wpList_load_all rfl 66 _ rfl (G + 1) rfl 66 (recC [.int .i64 si, .int .i64 sz] B [.int .i64 lo, .int .i64 hi, .int .i64 k2] V) _ Hx.out Tryd.underlying66 LJ.out ?_) | (with_reducible refine Hs.wpList_store_blk rfl 66 _ _ rfl (G + 1 + 1) 66 _ (recC [.int .i64 si, .int .i64 sz] B [.int .i64 lo, .int .i64 hi, .int .i64 k2] V) rfl rfl Hr.out LJ.out LS.out LO.out rfl ?_))
  refine bodyPost_ret (v := .agg (recC [.int .i64 si, .int .i64 sz] B [.int .i64 lo, .int .i64 hi, .int .i64 k2] V)) (results_cell_row rfl _ _ _ 66 _ (0, 0) _ rfl (Kr5.out.row_ _) Tryd.underlying66 rfl LJ.out) rfl ⟨rfl, below_setRow B5.out (show w.heap.size ≤ G + 1 + 1 by have := HG.out; omega) _⟩
set_option maxRecDepth 100000 in
set_option maxHeartbeats 1000000 in
theorem sealStamp_any (k : Rw) (ad va tg : ByteArray) (st sz lo hi ga se : Int) (B : List Nat) (S : List Nat) (w : World) (hB : B.length = 16) (hS : S.length = 16) (hb : ∀ x ∈ B, x < 256) (hst : i64Ok st) (hsz : i64Ok sz) (hlo : i64Ok lo) (hhi : i64Ok hi) (hga : i64Ok ga) (hse : i64Ok se) (hT : ad.size ≤ 200 ∧ va.size ≤ 200 ∧ tg.size ≤ 200) (hk : i64Ok k.1 ∧ i64Ok k.2.1) (hs : k.2.2.1.size ≤ 400) (hla : Hs.LaidC w) :
    Calls Tryd.prog 38 #[.agg (encR k).toArray, .agg (recC [.string ad, .string va, .int .i64 st, .int .i64 sz] B [.string tg, .int .i64 lo, .int .i64 hi, .int .i64 ga, .int .i64 se] S)] w fun e w' => e = .returned (.agg (recC [.string ad, .string va, .int .i64 st, .int .i64 sz] B [.string tg, .int .i64 lo, .int .i64 hi, .int .i64 k.1, .int .i64 k.2.1] (mkS 41 k.2.2.1 (stampP ad va tg st sz lo hi k.1 k.2.1 B)))) ∧ Below w.heap.size w w' := by
  have HLA := Lib.hid hla
  have hk1 : i64Ok k.1 := hk.1
  have hk2 : i64Ok k.2.1 := hk.2
  obtain ⟨k1, k2, k3, k4, k5⟩ := k
  simp only at hs hk1 hk2
  skip
  have HP := Lib.hid (fun (X : World) => stampParts_any ad va tg st sz lo hi k1 k2 B S X hB hb hst hsz hlo hhi hk1 hk2)
  have PS := stampP_le hB hst hsz hlo hhi hk1 hk2 hT
  have hpl : (stampP ad va tg st sz lo hi k1 k2 B).length = 5 := rfl
  have hpn : (stampP ad va tg st sz lo hi k1 k2 B).length ≤ 36 := by rw [hpl]; omega
  have HM := Lib.hid (fun (a : Option Addr) (c : Nat) (X : World) (h : StR X a (stampP ad va tg st sz lo hi k1 k2 B)) (hla : Hs.LaidC X) => make_any (k1, k2, k3, k4, k5) 41 41 a c (stampP ad va tg st sz lo hi k1 k2 B) X rfl h ⟨hpn, PS⟩ hs hla)
  simp only [encR, hpl, List.cons_append, List.nil_append] at HM
  simp only [encR]
  obtain ⟨P, hP⟩ : ∃ P, stampP ad va tg st sz lo hi k1 k2 B = P := ⟨_, rfl⟩
  skip
  simp only [hP] at HM HP
  rw [hP]
  obtain ⟨V, hV⟩ : ∃ V, mkS 41 k3 P = V := ⟨_, rfl⟩
  have hVl : V.length = 16 := by rw [← hV]; exact mkS_len _ _ _
  simp only [hV] at HM
  rw [hV]
  have VI := Lib.hid (show (Tryd.prog.info? 50).map (·.size) = some (Hs.bvs V).size by rw [Hs.bvs_size, hVl]; kernel_rfl)
  have VO := Lib.hid (Hs.bvs_one V)
  have VF := Lib.hid (show 25 + (Hs.bvs V).size ≤ (recL [.string ad, .string va, .int .i64 st, .int .i64 sz] B [.string tg, .int .i64 lo, .int .i64 hi, .int .i64 k1, .int .i64 k2] S).length by rw [Hs.bvs_size, hVl]; unfold recL; simp [hB, hS])
  have VS := Lib.hid (rec_splice [.string ad, .string va, .int .i64 st, .int .i64 sz] B [.string tg, .int .i64 lo, .int .i64 hi, .int .i64 k1, .int .i64 k2] S V hB hS hVl 25 rfl)
  have LI := Lib.hid (show (Tryd.prog.info? 58).map (·.size) = some (recC [.string ad, .string va, .int .i64 st, .int .i64 sz] B [.string tg, .int .i64 lo, .int .i64 hi, .int .i64 k1, .int .i64 k2] S).size by rw [rec_size _ _ _ _ hB hS]; kernel_rfl)
  have LJ := Lib.hid (show (Tryd.prog.info? 58).map (·.size) = some (recC [.string ad, .string va, .int .i64 st, .int .i64 sz] B [.string tg, .int .i64 lo, .int .i64 hi, .int .i64 k1, .int .i64 k2] V).size by rw [rec_size _ _ _ _ hB hVl]; kernel_rfl)
  have LS := Lib.hid (show (#[.string ⟨#[]⟩, .string ⟨#[]⟩, .int .i64 0, .int .i64 0, .int .u8 0, .int .u8 0, .int .u8 0, .int .u8 0, .int .u8 0, .int .u8 0, .int .u8 0, .int .u8 0, .int .u8 0, .int .u8 0, .int .u8 0, .int .u8 0, .int .u8 0, .int .u8 0, .int .u8 0, .int .u8 0, .string ⟨#[]⟩, .int .i64 0, .int .i64 0, .int .i64 0, .int .i64 0, .int .u8 0, .int .u8 0, .int .u8 0, .int .u8 0, .int .u8 0, .int .u8 0, .int .u8 0, .int .u8 0, .int .u8 0, .int .u8 0, .int .u8 0, .int .u8 0, .int .u8 0, .int .u8 0, .int .u8 0, .int .u8 0] : Array Value).size = (recC [.string ad, .string va, .int .i64 st, .int .i64 sz] B [.string tg, .int .i64 lo, .int .i64 hi, .int .i64 k1, .int .i64 k2] V).size by rw [rec_size _ _ _ _ hB hVl]; rfl)
  have LO := Lib.hid (rec_one [.string ad, .string va, .int .i64 st, .int .i64 sz] B [.string tg, .int .i64 lo, .int .i64 hi, .int .i64 k1, .int .i64 k2] V rfl rfl)
  have KI := Lib.hid (show (Tryd.prog.info? 24).map (·.size) = some (#[.int .i64 k1, .int .i64 k2, .string k3, .int .i64 k4, .int .i64 k5] : Array Value).size from by kernel_rfl)
  have HB := Lib.hid hB
  have ST0 := Lib.hid (rec_set [.string ad, .string va, .int .i64 st, .int .i64 sz] B [.string tg, .int .i64 lo, .int .i64 hi, .int .i64 ga, .int .i64 se] S hB 23 3 (.int .i64 k1) rfl (by simp))
  simp only [List.set_cons_zero, List.set_cons_succ] at ST0
  have ST1 := Lib.hid (rec_set [.string ad, .string va, .int .i64 st, .int .i64 sz] B [.string tg, .int .i64 lo, .int .i64 hi, .int .i64 k1, .int .i64 se] S hB 24 4 (.int .i64 k2) rfl (by simp))
  simp only [List.set_cons_zero, List.set_cons_succ] at ST1
  clear hla hk hk1 hk2 hs PS hP hV hVl hB hS hb hpl hpn hst hsz hlo hhi hga hse hT
  obtain ⟨C, hC⟩ : ∃ C, (recC [.string ad, .string va, .int .i64 st, .int .i64 sz] B [.string tg, .int .i64 lo, .int .i64 hi, .int .i64 ga, .int .i64 se] S) = C := ⟨_, rfl⟩
  obtain ⟨G, hG⟩ : ∃ G, w.heap.size = G := ⟨_, rfl⟩
  have HG := Lib.hid hG
  have Kk := Lib.hid (show Blk (((w.alloc (.cells #[.int .i64 k1, .int .i64 k2, .string k3, .int .i64 k4, .int .i64 k5] 24)).alloc (.cells C 58)).alloc (.cells #[.string ⟨#[]⟩, .string ⟨#[]⟩, .int .i64 0, .int .i64 0, .int .u8 0, .int .u8 0, .int .u8 0, .int .u8 0, .int .u8 0, .int .u8 0, .int .u8 0, .int .u8 0, .int .u8 0, .int .u8 0, .int .u8 0, .int .u8 0, .int .u8 0, .int .u8 0, .int .u8 0, .int .u8 0, .string ⟨#[]⟩, .int .i64 0, .int .i64 0, .int .i64 0, .int .i64 0, .int .u8 0, .int .u8 0, .int .u8 0, .int .u8 0, .int .u8 0, .int .u8 0, .int .u8 0, .int .u8 0, .int .u8 0, .int .u8 0, .int .u8 0, .int .u8 0, .int .u8 0, .int .u8 0, .int .u8 0, .int .u8 0] 58)) G 24 #[.int .i64 k1, .int .i64 k2, .string k3, .int .i64 k4, .int .i64 k5] from ((Blk.new' w _ _ _ hG rfl).alloc _).alloc _)
  have Kx := Lib.hid (show Blk (((w.alloc (.cells #[.int .i64 k1, .int .i64 k2, .string k3, .int .i64 k4, .int .i64 k5] 24)).alloc (.cells C 58)).alloc (.cells #[.string ⟨#[]⟩, .string ⟨#[]⟩, .int .i64 0, .int .i64 0, .int .u8 0, .int .u8 0, .int .u8 0, .int .u8 0, .int .u8 0, .int .u8 0, .int .u8 0, .int .u8 0, .int .u8 0, .int .u8 0, .int .u8 0, .int .u8 0, .int .u8 0, .int .u8 0, .int .u8 0, .int .u8 0, .string ⟨#[]⟩, .int .i64 0, .int .i64 0, .int .i64 0, .int .i64 0, .int .u8 0, .int .u8 0, .int .u8 0, .int .u8 0, .int .u8 0, .int .u8 0, .int .u8 0, .int .u8 0, .int .u8 0, .int .u8 0, .int .u8 0, .int .u8 0, .int .u8 0, .int .u8 0, .int .u8 0, .int .u8 0] 58)) (G + 1) 58 (recC [.string ad, .string va, .int .i64 st, .int .i64 sz] B [.string tg, .int .i64 lo, .int .i64 hi, .int .i64 ga, .int .i64 se] S) from by rw [hC]; exact (Blk.new' _ _ _ _ (by rw [World.size_alloc, hG]) rfl).alloc _)
  have Kr := Lib.hid (show Blk (((w.alloc (.cells #[.int .i64 k1, .int .i64 k2, .string k3, .int .i64 k4, .int .i64 k5] 24)).alloc (.cells C 58)).alloc (.cells #[.string ⟨#[]⟩, .string ⟨#[]⟩, .int .i64 0, .int .i64 0, .int .u8 0, .int .u8 0, .int .u8 0, .int .u8 0, .int .u8 0, .int .u8 0, .int .u8 0, .int .u8 0, .int .u8 0, .int .u8 0, .int .u8 0, .int .u8 0, .int .u8 0, .int .u8 0, .int .u8 0, .int .u8 0, .string ⟨#[]⟩, .int .i64 0, .int .i64 0, .int .i64 0, .int .i64 0, .int .u8 0, .int .u8 0, .int .u8 0, .int .u8 0, .int .u8 0, .int .u8 0, .int .u8 0, .int .u8 0, .int .u8 0, .int .u8 0, .int .u8 0, .int .u8 0, .int .u8 0, .int .u8 0, .int .u8 0, .int .u8 0] 58)) (G + 1 + 1) 58 #[.string ⟨#[]⟩, .string ⟨#[]⟩, .int .i64 0, .int .i64 0, .int .u8 0, .int .u8 0, .int .u8 0, .int .u8 0, .int .u8 0, .int .u8 0, .int .u8 0, .int .u8 0, .int .u8 0, .int .u8 0, .int .u8 0, .int .u8 0, .int .u8 0, .int .u8 0, .int .u8 0, .int .u8 0, .string ⟨#[]⟩, .int .i64 0, .int .i64 0, .int .i64 0, .int .i64 0, .int .u8 0, .int .u8 0, .int .u8 0, .int .u8 0, .int .u8 0, .int .u8 0, .int .u8 0, .int .u8 0, .int .u8 0, .int .u8 0, .int .u8 0, .int .u8 0, .int .u8 0, .int .u8 0, .int .u8 0, .int .u8 0] from Blk.new' _ _ _ _ (by rw [World.size_alloc, World.size_alloc, hG]) rfl)
  have B0 := Lib.hid (show Below w.heap.size w (((w.alloc (.cells #[.int .i64 k1, .int .i64 k2, .string k3, .int .i64 k4, .int .i64 k5] 24)).alloc (.cells C 58)).alloc (.cells #[.string ⟨#[]⟩, .string ⟨#[]⟩, .int .i64 0, .int .i64 0, .int .u8 0, .int .u8 0, .int .u8 0, .int .u8 0, .int .u8 0, .int .u8 0, .int .u8 0, .int .u8 0, .int .u8 0, .int .u8 0, .int .u8 0, .int .u8 0, .int .u8 0, .int .u8 0, .int .u8 0, .int .u8 0, .string ⟨#[]⟩, .int .i64 0, .int .i64 0, .int .i64 0, .int .i64 0, .int .u8 0, .int .u8 0, .int .u8 0, .int .u8 0, .int .u8 0, .int .u8 0, .int .u8 0, .int .u8 0, .int .u8 0, .int .u8 0, .int .u8 0, .int .u8 0, .int .u8 0, .int .u8 0, .int .u8 0, .int .u8 0] 58)) by (repeat' (first | (with_reducible exact Below.refl _ _) | (with_reducible assumption) | (with_reducible refine Below.alloc ?_ ?_ _) | (with_reducible refine Below.drew ?_) | (with_reducible refine below_dn ?_) | (with_reducible refine Below.setCell ?_ ?_ _) | (with_reducible exact Nat.le_refl _) | omega | (simp only [World.size_alloc, World.size_setCell, World.size_drew]; omega) | (simp; omega) | (simp; done))))
  rw [hC]
  clear hC
  go_enter Tryd.func38, Tryd.ntmps38
  go_upto_region 1 with (fail)
  try rw [hG]
  generalize hw0 : (((w.alloc (.cells #[.int .i64 k1, .int .i64 k2, .string k3, .int .i64 k4, .int .i64 k5] 24)).alloc (.cells C 58)).alloc (.cells #[.string ⟨#[]⟩, .string ⟨#[]⟩, .int .i64 0, .int .i64 0, .int .u8 0, .int .u8 0, .int .u8 0, .int .u8 0, .int .u8 0, .int .u8 0, .int .u8 0, .int .u8 0, .int .u8 0, .int .u8 0, .int .u8 0, .int .u8 0, .int .u8 0, .int .u8 0, .int .u8 0, .int .u8 0, .string ⟨#[]⟩, .int .i64 0, .int .i64 0, .int .i64 0, .int .i64 0, .int .u8 0, .int .u8 0, .int .u8 0, .int .u8 0, .int .u8 0, .int .u8 0, .int .u8 0, .int .u8 0, .int .u8 0, .int .u8 0, .int .u8 0, .int .u8 0, .int .u8 0, .int .u8 0, .int .u8 0, .int .u8 0] 58)) = w0 at Kk Kx Kr B0 ⊢
  clear hw0 hG
  obtain ⟨t0, t1, t2, t3, t4⟩ := five Kk.out
  obtain ⟨xa0, xa1, xa2, xa3, xc0, xc1, xc2, xc3, xc4⟩ := stamp_cells HB.out Kx.out
  have fx := fun q => Kx.out.frozen q
  replace Kx := Lib.hid (show Blk (w0.setCell ⟨G + 1, 23, none⟩ (.int .i64 k1)) (G + 1) 58 (recC [.string ad, .string va, .int .i64 st, .int .i64 sz] B [.string tg, .int .i64 lo, .int .i64 hi, .int .i64 k1, .int .i64 se] S) from by have h := Kx.out.set_ 23 (.int .i64 k1); rw [ST0.out] at h; exact h)
  replace Kk := Lib.hid (show Blk (w0.setCell ⟨G + 1, 23, none⟩ (.int .i64 k1)) G 24 #[.int .i64 k1, .int .i64 k2, .string k3, .int .i64 k4, .int .i64 k5] from Kk.out.far (p := ⟨G + 1, 23, none⟩) (by simp) (.int .i64 k1))
  replace Kr := Lib.hid (show Blk (w0.setCell ⟨G + 1, 23, none⟩ (.int .i64 k1)) (G + 1 + 1) 58 #[.string ⟨#[]⟩, .string ⟨#[]⟩, .int .i64 0, .int .i64 0, .int .u8 0, .int .u8 0, .int .u8 0, .int .u8 0, .int .u8 0, .int .u8 0, .int .u8 0, .int .u8 0, .int .u8 0, .int .u8 0, .int .u8 0, .int .u8 0, .int .u8 0, .int .u8 0, .int .u8 0, .int .u8 0, .string ⟨#[]⟩, .int .i64 0, .int .i64 0, .int .i64 0, .int .i64 0, .int .u8 0, .int .u8 0, .int .u8 0, .int .u8 0, .int .u8 0, .int .u8 0, .int .u8 0, .int .u8 0, .int .u8 0, .int .u8 0, .int .u8 0, .int .u8 0, .int .u8 0, .int .u8 0, .int .u8 0, .int .u8 0] from Kr.out.far (p := ⟨G + 1, 23, none⟩) (by simp) (.int .i64 k1))
  replace B0 := Lib.hid (show Below w.heap.size w (w0.setCell ⟨G + 1, 23, none⟩ (.int .i64 k1)) from B0.out.setCell (p := ⟨G + 1, 23, none⟩) (show w.heap.size ≤ G + 1 by have := HG.out; omega) (.int .i64 k1))
  replace Kx := Lib.hid (show Blk ((w0.setCell ⟨G + 1, 23, none⟩ (.int .i64 k1)).setCell ⟨G + 1, 24, none⟩ (.int .i64 k2)) (G + 1) 58 (recC [.string ad, .string va, .int .i64 st, .int .i64 sz] B [.string tg, .int .i64 lo, .int .i64 hi, .int .i64 k1, .int .i64 k2] S) from by have h := Kx.out.set_ 24 (.int .i64 k2); rw [ST1.out] at h; exact h)
  replace Kk := Lib.hid (show Blk ((w0.setCell ⟨G + 1, 23, none⟩ (.int .i64 k1)).setCell ⟨G + 1, 24, none⟩ (.int .i64 k2)) G 24 #[.int .i64 k1, .int .i64 k2, .string k3, .int .i64 k4, .int .i64 k5] from Kk.out.far (p := ⟨G + 1, 24, none⟩) (by simp) (.int .i64 k2))
  replace Kr := Lib.hid (show Blk ((w0.setCell ⟨G + 1, 23, none⟩ (.int .i64 k1)).setCell ⟨G + 1, 24, none⟩ (.int .i64 k2)) (G + 1 + 1) 58 #[.string ⟨#[]⟩, .string ⟨#[]⟩, .int .i64 0, .int .i64 0, .int .u8 0, .int .u8 0, .int .u8 0, .int .u8 0, .int .u8 0, .int .u8 0, .int .u8 0, .int .u8 0, .int .u8 0, .int .u8 0, .int .u8 0, .int .u8 0, .int .u8 0, .int .u8 0, .int .u8 0, .int .u8 0, .string ⟨#[]⟩, .int .i64 0, .int .i64 0, .int .i64 0, .int .i64 0, .int .u8 0, .int .u8 0, .int .u8 0, .int .u8 0, .int .u8 0, .int .u8 0, .int .u8 0, .int .u8 0, .int .u8 0, .int .u8 0, .int .u8 0, .int .u8 0, .int .u8 0, .int .u8 0, .int .u8 0, .int .u8 0] from Kr.out.far (p := ⟨G + 1, 24, none⟩) (by simp) (.int .i64 k2))
  replace B0 := Lib.hid (show Below w.heap.size w ((w0.setCell ⟨G + 1, 23, none⟩ (.int .i64 k1)).setCell ⟨G + 1, 24, none⟩ (.int .i64 k2)) from B0.out.setCell (p := ⟨G + 1, 24, none⟩) (show w.heap.size ≤ G + 1 by have := HG.out; omega) (.int .i64 k2))
  go_region
  skip
  go_upto_region 2 with (fail)
  generalize hw1 : ((w0.setCell ⟨G + 1, 23, none⟩ (.int .i64 k1)).setCell ⟨G + 1, 24, none⟩ (.int .i64 k2)) = w2 at Kk Kx Kr B0 ⊢
  clear hw1 t0 t1 t2 t3 t4 xa0 xa1 xa2 xa3 xc0 xc1 xc2 xc3 xc4 fx ST0 ST1
  replace Kx := Lib.hid Kx.out.drew
  replace Kk := Lib.hid Kk.out.drew
  replace Kr := Lib.hid Kr.out.drew
  replace B0 := Lib.hid B0.out.drew
  generalize w2.drew = w2b at Kx Kk Kr B0 ⊢
  skip
  refine wp_region_held_drew (S := fun W => Blk W G 24 #[.int .i64 k1, .int .i64 k2, .string k3, .int .i64 k4, .int .i64 k5]) (by kernel_rfl) Kk.out.drew (fun hHeld => ?_)
  replace Kx := Lib.hid Kx.out.drew
  replace Kk := Lib.hid Kk.out.drew
  replace Kr := Lib.hid Kr.out.drew
  replace B0 := Lib.hid B0.out.drew
  generalize w2b.drew = wc at Kx Kk Kr B0 hHeld ⊢
  refine wpAnyH_take (i := 0) (v := .agg #[.int .i64 k1, .int .i64 k2, .string k3, .int .i64 k4, .int .i64 k5]) rfl (by kernel_rfl) (by kernel_rfl) (by kernel_rfl) (fun _ _ _ h => h) (Or.inl ⟨by rfl, fun W hW => exec_load_row 24 _ rfl G rfl 24 #[.int .i64 k1, .int .i64 k2, .string k3, .int .i64 k4, .int .i64 k5] (0, 0) _ hW Tryd.underlying24 rfl KI.out⟩) (by assumption) ?_
  (try simp only [Act.put, List.getElem_toArray, List.getElem_cons_succ, List.getElem_cons_zero, List.setIfInBounds_toArray, List.set_cons_zero, List.set_cons_succ])
  refine wpAnyH_ready (rs := [1]) (by kernel_rfl) (by simp) (AllReadyH.cons rfl (fun K hK => ?_) AllReadyH.nil)
  rw [if_pos (by rfl)]
  refine wp_load_row 58 _ rfl (G + 1) rfl 58 (recC [.string ad, .string va, .int .i64 st, .int .i64 sz] B [.string tg, .int .i64 lo, .int .i64 hi, .int .i64 k1, .int .i64 k2] S) _ Kx.out Tryd.underlying58 rfl LI.out ?_
  refine hK _ _ hHeld (fun hHeld1 => ?_)
  clear hK K
  (try simp only [Act.put, List.getElem_toArray, List.getElem_cons_succ, List.getElem_cons_zero, List.setIfInBounds_toArray, List.set_cons_zero, List.set_cons_succ])
  refine wpAnyH_ready (rs := [2]) (by kernel_rfl) (by simp) (AllReadyH.cons rfl (fun K hK => ?_) AllReadyH.nil)
  go_simp
  refine (HP.out _).mono ?_
  rintro e w3 ⟨⟨a, c, rfl, hr⟩, hb⟩
  have HR := Lib.hid hr
  replace Kx := Lib.hid (Kx.out.below hb Kx.out.lt)
  replace Kk := Lib.hid (Kk.out.below hb Kk.out.lt)
  replace Kr := Lib.hid (Kr.out.below hb Kr.out.lt)
  replace B0 := Lib.hid (B0.out.trans (hb.mono B0.out.size))
  clear hb hr
  go_wp2_with fail
  refine hK _ _ Kk.out (fun hHeld2 => ?_)
  clear hK K
  (try simp only [Act.put, List.getElem_toArray, List.getElem_cons_succ, List.getElem_cons_zero, List.setIfInBounds_toArray, List.set_cons_zero, List.set_cons_succ])
  refine wpAnyH_ready (rs := [3]) (by kernel_rfl) (by simp) (AllReadyH.cons rfl (fun K hK => ?_) AllReadyH.nil)
  go_simp
  refine (HM.out a c _ HR.out (HLA.out.mono B0.out)).mono ?_
  rintro e w4 ⟨rfl, hb⟩
  replace Kx := Lib.hid (Kx.out.below hb Kx.out.lt)
  replace Kk := Lib.hid (Kk.out.below hb Kk.out.lt)
  replace Kr := Lib.hid (Kr.out.below hb Kr.out.lt)
  replace B0 := Lib.hid (B0.out.trans (hb.mono B0.out.size))
  clear hb
  go_wp2_with fail
  refine hK _ _ Kk.out (fun hHeld3 => ?_)
  clear hK K
  (try simp only [Act.put, List.getElem_toArray, List.getElem_cons_succ, List.getElem_cons_zero, List.setIfInBounds_toArray, List.set_cons_zero, List.set_cons_succ])
  refine wpAnyH_take (i := 4) (v := .pointer (some ⟨G + 1, 25, none⟩)) rfl (by kernel_rfl) (by kernel_rfl) (by kernel_rfl) (fun _ _ _ h => h) (Or.inl ⟨by rfl, fun W hW => by go_simp⟩) (by assumption) ?_
  (try simp only [Act.put, List.getElem_toArray, List.getElem_cons_succ, List.getElem_cons_zero, List.setIfInBounds_toArray, List.set_cons_zero, List.set_cons_succ])
  refine wpAnyH_ready (rs := [5]) (by kernel_rfl) (by simp) (AllReadyH.cons rfl (fun K hK => ?_) AllReadyH.nil)
  rw [if_pos (by rfl)]
  refine wp_store_mid 50 _ _ rfl (G + 1) 25 58 (recL [.string ad, .string va, .int .i64 st, .int .i64 sz] B [.string tg, .int .i64 lo, .int .i64 hi, .int .i64 k1, .int .i64 k2] S) (Hs.bvs V) rfl rfl Kx.out VI.out VF.out VO.out rfl ?_
  rw [VS.out]
  have Kx5 := Lib.hid (show Blk (w4.setRow (G + 1) (recL [.string ad, .string va, .int .i64 st, .int .i64 sz] B [.string tg, .int .i64 lo, .int .i64 hi, .int .i64 k1, .int .i64 k2] V).toArray) (G + 1) 58 (recC [.string ad, .string va, .int .i64 st, .int .i64 sz] B [.string tg, .int .i64 lo, .int .i64 hi, .int .i64 k1, .int .i64 k2] V) from Kx.out.row_ _)
  have Kk5 := Lib.hid (show Blk (w4.setRow (G + 1) (recL [.string ad, .string va, .int .i64 st, .int .i64 sz] B [.string tg, .int .i64 lo, .int .i64 hi, .int .i64 k1, .int .i64 k2] V).toArray) G 24 #[.int .i64 k1, .int .i64 k2, .string k3, .int .i64 k4, .int .i64 k5] from Kk.out.rowfar (by omega) _)
  have Kr5 := Lib.hid (show Blk (w4.setRow (G + 1) (recL [.string ad, .string va, .int .i64 st, .int .i64 sz] B [.string tg, .int .i64 lo, .int .i64 hi, .int .i64 k1, .int .i64 k2] V).toArray) (G + 1 + 1) 58 #[.string ⟨#[]⟩, .string ⟨#[]⟩, .int .i64 0, .int .i64 0, .int .u8 0, .int .u8 0, .int .u8 0, .int .u8 0, .int .u8 0, .int .u8 0, .int .u8 0, .int .u8 0, .int .u8 0, .int .u8 0, .int .u8 0, .int .u8 0, .int .u8 0, .int .u8 0, .int .u8 0, .int .u8 0, .string ⟨#[]⟩, .int .i64 0, .int .i64 0, .int .i64 0, .int .i64 0, .int .u8 0, .int .u8 0, .int .u8 0, .int .u8 0, .int .u8 0, .int .u8 0, .int .u8 0, .int .u8 0, .int .u8 0, .int .u8 0, .int .u8 0, .int .u8 0, .int .u8 0, .int .u8 0, .int .u8 0, .int .u8 0] from Kr.out.rowfar (by omega) _)
  have B5 := Lib.hid (show Below w.heap.size w (w4.setRow (G + 1) (recL [.string ad, .string va, .int .i64 st, .int .i64 sz] B [.string tg, .int .i64 lo, .int .i64 hi, .int .i64 k1, .int .i64 k2] V).toArray) from below_setRow B0.out (show w.heap.size ≤ G + 1 by have := HG.out; omega) _)
  refine hK _ _ Kk5.out (fun hHeld4 => ?_)
  clear hK K
  (try simp only [Act.put, List.getElem_toArray, List.getElem_cons_succ, List.getElem_cons_zero, List.setIfInBounds_toArray, List.set_cons_zero, List.set_cons_succ])
  refine wpAnyH_done (by kernel_rfl) ?_ _
  generalize (w4.setRow (G + 1) (recL [.string ad, .string va, .int .i64 st, .int .i64 sz] B [.string tg, .int .i64 lo, .int .i64 hi, .int .i64 k1, .int .i64 k2] V).toArray) = w5 at Kx5 Kr5 B5 ⊢
  have Hx := Lib.hid (show Hs.Blk w5 (G + 1) 58 (recC [.string ad, .string va, .int .i64 st, .int .i64 sz] B [.string tg, .int .i64 lo, .int .i64 hi, .int .i64 k1, .int .i64 k2] V) from Kx5.out)
  have Hr := Lib.hid (show Hs.Blk w5 (G + 1 + 1) 58 #[.string ⟨#[]⟩, .string ⟨#[]⟩, .int .i64 0, .int .i64 0, .int .u8 0, .int .u8 0, .int .u8 0, .int .u8 0, .int .u8 0, .int .u8 0, .int .u8 0, .int .u8 0, .int .u8 0, .int .u8 0, .int .u8 0, .int .u8 0, .int .u8 0, .int .u8 0, .int .u8 0, .int .u8 0, .string ⟨#[]⟩, .int .i64 0, .int .i64 0, .int .i64 0, .int .i64 0, .int .u8 0, .int .u8 0, .int .u8 0, .int .u8 0, .int .u8 0, .int .u8 0, .int .u8 0, .int .u8 0, .int .u8 0, .int .u8 0, .int .u8 0, .int .u8 0, .int .u8 0, .int .u8 0, .int .u8 0, .int .u8 0] from Kr5.out)
  go_wp2_with (first | (with_reducible refine Hs.wpList_load_all rfl 58 _ rfl (G + 1) rfl 58 (recC [.string ad, .string va, .int .i64 st, .int .i64 sz] B [.string tg, .int .i64 lo, .int .i64 hi, .int .i64 k1, .int .i64 k2] V) _ Hx.out Tryd.underlying58 LJ.out ?_) | (with_reducible refine Hs.wpList_store_blk rfl 58 _ _ rfl (G + 1 + 1) 58 _ (recC [.string ad, .string va, .int .i64 st, .int .i64 sz] B [.string tg, .int .i64 lo, .int .i64 hi, .int .i64 k1, .int .i64 k2] V) rfl rfl Hr.out LJ.out LS.out LO.out rfl ?_))
  refine bodyPost_ret (v := .agg (recC [.string ad, .string va, .int .i64 st, .int .i64 sz] B [.string tg, .int .i64 lo, .int .i64 hi, .int .i64 k1, .int .i64 k2] V)) (results_cell_row rfl _ _ _ 58 _ (0, 0) _ rfl (Kr5.out.row_ _) Tryd.underlying58 rfl LJ.out) rfl ⟨rfl, below_setRow B5.out (show w.heap.size ≤ G + 1 + 1 by have := HG.out; omega) _⟩
end Go.Proofs.YtcdcnklfcmoiiaaDoor
