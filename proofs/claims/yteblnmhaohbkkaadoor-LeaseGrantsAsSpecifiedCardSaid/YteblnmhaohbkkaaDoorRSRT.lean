/- Contracts: sealing of records, reference. -/
import Derived.Test.YteblnmhaohbkkaaDoorRSER
import Derived.Test.YteblnmhaohbkkaaDoorRSSS
import Derived.Deep.RegionHeld
namespace Go.Proofs.YteblnmhaohbkkaaDoor
set_option linter.unusedVariables false
set_option linter.unusedSimpArgs false
open Go.RowKit Go.Sort
set_option maxRecDepth 100000 in
set_option maxHeartbeats 1000000 in
theorem rsealLease_any (k : Rw) (s e0 u r : Int) (D : List Nat) (w : World) (hD : D.length = 16) (h1 : i64Ok s) (h2 : i64Ok e0) (h3 : i64Ok u) (hk : i64Ok k.2.1) (hs : k.2.2.1.size ≤ 400) (hla : Hs.LaidK w) :
    Calls Tryd.prog 45 #[.agg (encR k).toArray, .agg (leaseC s e0 u r D)] w fun e w' => e = .returned (.agg (leaseC s e0 u k.2.1 (mkS 43 k.2.2.1 [leaseP s e0 u k.2.1]))) ∧ Below w.heap.size w w' := by
  have HLA := Lib.hid hla
  have ho2 : i64Ok k.2.1 := hk
  obtain ⟨k1, k2, k3, k4, k5⟩ := k
  simp only at hs ho2 hk
  have HP := Lib.hid (fun (X : World) => rleaseParts_any s e0 u k2 D X h1 h2 h3 ho2)
  have PS : ∀ x ∈ [leaseP s e0 u k2], x.size ≤ 400 := fun x hx => by
    obtain rfl := List.mem_singleton.1 hx
    unfold leaseP
    rw [Hs.strB_size]
    have := intsL4 s e0 u k2 h1 h2 h3 ho2
    omega
  have HM := Lib.hid (fun (a : Option Addr) (c : Nat) (X : World) (h : StR X a [leaseP s e0 u k2]) (hla : Hs.LaidK X) => rmake_any (k1, k2, k3, k4, k5) 43 43 a c [leaseP s e0 u k2] X rfl h ⟨by simp, PS⟩ hs hla)
  simp only [encR, List.length_cons, List.length_nil, Nat.zero_add] at HM
  simp only [encR]
  obtain ⟨P, hP⟩ : ∃ P, leaseP s e0 u k2 = P := ⟨_, rfl⟩
  simp only [hP] at HM
  simp only [hP] at HP
  rw [hP]
  obtain ⟨V, hV⟩ : ∃ V, mkS 43 k3 [P] = V := ⟨_, rfl⟩
  have hVl : V.length = 16 := by rw [← hV]; exact mkS_len _ _ _
  simp only [hV] at HM
  rw [hV]
  have VI := Lib.hid (show (Tryd.prog.info? 36).map (·.size) = some (Hs.bvs V).size by rw [Hs.bvs_size, hVl]; kernel_rfl)
  have VO := Lib.hid (Hs.bvs_one V)
  have VF := Lib.hid (show 4 + (Hs.bvs V).size ≤ (leaseL s e0 u k2 D).length by rw [Hs.bvs_size, hVl]; unfold leaseL; simp [hD])
  have VS := Lib.hid (lease_splice s e0 u k2 D V hD hVl)
  have LI := Lib.hid (show (Tryd.prog.info? 38).map (·.size) = some (leaseC s e0 u k2 D).size by rw [lease_size _ _ _ _ _ hD]; kernel_rfl)
  have LJ := Lib.hid (show (Tryd.prog.info? 38).map (·.size) = some (leaseC s e0 u k2 V).size by rw [lease_size _ _ _ _ _ hVl]; kernel_rfl)
  have LS := Lib.hid (show (#[.int .i64 0, .int .i64 0, .int .i64 0, .int .i64 0, .int .u8 0, .int .u8 0, .int .u8 0, .int .u8 0, .int .u8 0, .int .u8 0, .int .u8 0, .int .u8 0, .int .u8 0, .int .u8 0, .int .u8 0, .int .u8 0, .int .u8 0, .int .u8 0, .int .u8 0, .int .u8 0] : Array Value).size = (leaseC s e0 u k2 V).size by rw [lease_size _ _ _ _ _ hVl]; rfl)
  have LO := Lib.hid (lease_one s e0 u k2 V)
  have KI := Lib.hid (show (Tryd.prog.info? 26).map (·.size) = some (#[.int .i64 k1, .int .i64 k2, .string k3, .int .i64 k4, .int .i64 k5] : Array Value).size from by kernel_rfl)
  have LSET := Lib.hid (lease_set s e0 u r D k2)
  clear hla hk ho2 h1 h2 h3 hs PS hP hV hVl hD
  obtain ⟨C, hC⟩ : ∃ C, leaseC s e0 u r D = C := ⟨_, rfl⟩
  obtain ⟨G, hG⟩ : ∃ G, w.heap.size = G := ⟨_, rfl⟩
  have HG := Lib.hid hG
  have Kk := Lib.hid (show Blk (((w.alloc (.cells #[.int .i64 k1, .int .i64 k2, .string k3, .int .i64 k4, .int .i64 k5] 26)).alloc (.cells C 38)).alloc (.cells #[.int .i64 0, .int .i64 0, .int .i64 0, .int .i64 0, .int .u8 0, .int .u8 0, .int .u8 0, .int .u8 0, .int .u8 0, .int .u8 0, .int .u8 0, .int .u8 0, .int .u8 0, .int .u8 0, .int .u8 0, .int .u8 0, .int .u8 0, .int .u8 0, .int .u8 0, .int .u8 0] 38)) G 26 #[.int .i64 k1, .int .i64 k2, .string k3, .int .i64 k4, .int .i64 k5] from ((Blk.new' w _ _ _ hG rfl).alloc _).alloc _)
  have Kx := Lib.hid (show Blk (((w.alloc (.cells #[.int .i64 k1, .int .i64 k2, .string k3, .int .i64 k4, .int .i64 k5] 26)).alloc (.cells C 38)).alloc (.cells #[.int .i64 0, .int .i64 0, .int .i64 0, .int .i64 0, .int .u8 0, .int .u8 0, .int .u8 0, .int .u8 0, .int .u8 0, .int .u8 0, .int .u8 0, .int .u8 0, .int .u8 0, .int .u8 0, .int .u8 0, .int .u8 0, .int .u8 0, .int .u8 0, .int .u8 0, .int .u8 0] 38)) (G + 1) 38 (leaseC s e0 u r D) from by rw [hC]; exact (Blk.new' _ _ _ _ (by rw [World.size_alloc, hG]) rfl).alloc _)
  have Kr := Lib.hid (show Blk (((w.alloc (.cells #[.int .i64 k1, .int .i64 k2, .string k3, .int .i64 k4, .int .i64 k5] 26)).alloc (.cells C 38)).alloc (.cells #[.int .i64 0, .int .i64 0, .int .i64 0, .int .i64 0, .int .u8 0, .int .u8 0, .int .u8 0, .int .u8 0, .int .u8 0, .int .u8 0, .int .u8 0, .int .u8 0, .int .u8 0, .int .u8 0, .int .u8 0, .int .u8 0, .int .u8 0, .int .u8 0, .int .u8 0, .int .u8 0] 38)) (G + 1 + 1) 38 #[.int .i64 0, .int .i64 0, .int .i64 0, .int .i64 0, .int .u8 0, .int .u8 0, .int .u8 0, .int .u8 0, .int .u8 0, .int .u8 0, .int .u8 0, .int .u8 0, .int .u8 0, .int .u8 0, .int .u8 0, .int .u8 0, .int .u8 0, .int .u8 0, .int .u8 0, .int .u8 0] from Blk.new' _ _ _ _ (by rw [World.size_alloc, World.size_alloc, hG]) rfl)
  have B := Lib.hid (show Below w.heap.size w (((w.alloc (.cells #[.int .i64 k1, .int .i64 k2, .string k3, .int .i64 k4, .int .i64 k5] 26)).alloc (.cells C 38)).alloc (.cells #[.int .i64 0, .int .i64 0, .int .i64 0, .int .i64 0, .int .u8 0, .int .u8 0, .int .u8 0, .int .u8 0, .int .u8 0, .int .u8 0, .int .u8 0, .int .u8 0, .int .u8 0, .int .u8 0, .int .u8 0, .int .u8 0, .int .u8 0, .int .u8 0, .int .u8 0, .int .u8 0] 38)) by (repeat' (first | (with_reducible exact Below.refl _ _) | (with_reducible assumption) | (with_reducible refine Below.alloc ?_ ?_ _) | (with_reducible refine Below.drew ?_) | (with_reducible refine below_dn ?_) | (with_reducible refine Below.setCell ?_ ?_ _) | (with_reducible exact Nat.le_refl _) | omega | (simp only [World.size_alloc, World.size_setCell, World.size_drew]; omega) | (simp; omega) | (simp; done))))
  rw [hC]
  clear hC
  go_enter Tryd.func45, Tryd.ntmps45
  go_upto_region 1 with (fail)
  try rw [hG]
  generalize hw0 : (((w.alloc (.cells #[.int .i64 k1, .int .i64 k2, .string k3, .int .i64 k4, .int .i64 k5] 26)).alloc (.cells C 38)).alloc (.cells #[.int .i64 0, .int .i64 0, .int .i64 0, .int .i64 0, .int .u8 0, .int .u8 0, .int .u8 0, .int .u8 0, .int .u8 0, .int .u8 0, .int .u8 0, .int .u8 0, .int .u8 0, .int .u8 0, .int .u8 0, .int .u8 0, .int .u8 0, .int .u8 0, .int .u8 0, .int .u8 0] 38)) = w0 at Kk Kx Kr B ⊢
  clear hw0 hG
  obtain ⟨t0, t1, t2, t3, t4⟩ := five Kk.out
  obtain ⟨x0, x1, x2, x3⟩ := lease_cells Kx.out
  have fx := fun q => Kx.out.frozen q
  replace Kx := Lib.hid (show Blk (w0.setCell ⟨G + 1, 3, none⟩ (.int .i64 k2)) (G + 1) 38 (leaseC s e0 u k2 D) from by have h := Kx.out.set_ 3 (.int .i64 k2); rw [LSET.out] at h; exact h)
  replace Kk := Lib.hid (show Blk (w0.setCell ⟨G + 1, 3, none⟩ (.int .i64 k2)) G 26 #[.int .i64 k1, .int .i64 k2, .string k3, .int .i64 k4, .int .i64 k5] from Kk.out.far (p := ⟨G + 1, 3, none⟩) (by simp) (.int .i64 k2))
  replace Kr := Lib.hid (show Blk (w0.setCell ⟨G + 1, 3, none⟩ (.int .i64 k2)) (G + 1 + 1) 38 #[.int .i64 0, .int .i64 0, .int .i64 0, .int .i64 0, .int .u8 0, .int .u8 0, .int .u8 0, .int .u8 0, .int .u8 0, .int .u8 0, .int .u8 0, .int .u8 0, .int .u8 0, .int .u8 0, .int .u8 0, .int .u8 0, .int .u8 0, .int .u8 0, .int .u8 0, .int .u8 0] from Kr.out.far (p := ⟨G + 1, 3, none⟩) (by simp) (.int .i64 k2))
  replace B := Lib.hid (show Below w.heap.size w (w0.setCell ⟨G + 1, 3, none⟩ (.int .i64 k2)) from B.out.setCell (p := ⟨G + 1, 3, none⟩) (show w.heap.size ≤ G + 1 by have := HG.out; omega) (.int .i64 k2))
  go_upto_region 2 with (fail)
  generalize hw1 : (w0.setCell ⟨G + 1, 3, none⟩ (.int .i64 k2)) = w1 at Kk Kx Kr B ⊢
  clear hw1 t0 t1 t2 t3 t4 x0 x1 x2 x3 fx LSET
  refine wp_region_held_drew (S := fun W => Blk W G 26 #[.int .i64 k1, .int .i64 k2, .string k3, .int .i64 k4, .int .i64 k5]) (by kernel_rfl) Kk.out.drew (fun hHeld => ?_)
  replace Kx := Lib.hid Kx.out.drew
  replace Kk := Lib.hid Kk.out.drew
  replace Kr := Lib.hid Kr.out.drew
  replace B := Lib.hid B.out.drew
  generalize w1.drew = w2 at Kx Kk Kr B hHeld ⊢
  refine wpAnyH_take (i := 0) (v := .agg #[.int .i64 k1, .int .i64 k2, .string k3, .int .i64 k4, .int .i64 k5]) rfl (by kernel_rfl) (by kernel_rfl) (by kernel_rfl) (fun _ _ _ h => h) (Or.inl ⟨by rfl, fun W hW => exec_load_row 26 _ rfl G rfl 26 #[.int .i64 k1, .int .i64 k2, .string k3, .int .i64 k4, .int .i64 k5] (0, 0) _ hW Tryd.underlying26 rfl KI.out⟩) (by assumption) ?_
  (try simp only [Act.put, List.getElem_toArray, List.getElem_cons_succ, List.getElem_cons_zero, List.setIfInBounds_toArray, List.set_cons_zero, List.set_cons_succ])
  refine wpAnyH_ready (rs := [1]) (by kernel_rfl) (by simp) (AllReadyH.cons rfl (fun K hK => ?_) AllReadyH.nil)
  rw [if_pos (by rfl)]
  refine wp_load_row 38 _ rfl (G + 1) rfl 38 (leaseC s e0 u k2 D) _ Kx.out Tryd.underlying38 rfl LI.out ?_
  refine hK _ _ hHeld (fun hHeld1 => ?_)
  clear hK K
  (try simp only [Act.put, List.getElem_toArray, List.getElem_cons_succ, List.getElem_cons_zero, List.setIfInBounds_toArray, List.set_cons_zero, List.set_cons_succ])
  refine wpAnyH_ready (rs := [2]) (by kernel_rfl) (by simp) (AllReadyH.cons rfl (fun K hK => ?_) AllReadyH.nil)
  go_simp
  refine (HP.out _).mono ?_
  rintro e w3 ⟨⟨a, c, rfl, hr⟩, hb⟩
  have HR := Lib.hid hr
  replace Kx := Lib.hid (Kx.out.below hb Kx.out.lt)
  replace Kk := Lib.hid (Kk.out.below hb Kk.out.lt)
  replace Kr := Lib.hid (Kr.out.below hb Kr.out.lt)
  replace B := Lib.hid (B.out.trans (hb.mono B.out.size))
  clear hb hr
  go_wp2_with fail
  refine hK _ _ Kk.out (fun hHeld2 => ?_)
  clear hK K
  (try simp only [Act.put, List.getElem_toArray, List.getElem_cons_succ, List.getElem_cons_zero, List.setIfInBounds_toArray, List.set_cons_zero, List.set_cons_succ])
  refine wpAnyH_ready (rs := [3]) (by kernel_rfl) (by simp) (AllReadyH.cons rfl (fun K hK => ?_) AllReadyH.nil)
  go_simp
  refine (HM.out a c _ HR.out (HLA.out.mono B.out)).mono ?_
  rintro e w4 ⟨rfl, hb⟩
  replace Kx := Lib.hid (Kx.out.below hb Kx.out.lt)
  replace Kk := Lib.hid (Kk.out.below hb Kk.out.lt)
  replace Kr := Lib.hid (Kr.out.below hb Kr.out.lt)
  replace B := Lib.hid (B.out.trans (hb.mono B.out.size))
  clear hb
  go_wp2_with fail
  refine hK _ _ Kk.out (fun hHeld3 => ?_)
  clear hK K
  (try simp only [Act.put, List.getElem_toArray, List.getElem_cons_succ, List.getElem_cons_zero, List.setIfInBounds_toArray, List.set_cons_zero, List.set_cons_succ])
  refine wpAnyH_take (i := 4) (v := .pointer (some ⟨G + 1, 4, none⟩)) rfl (by kernel_rfl) (by kernel_rfl) (by kernel_rfl) (fun _ _ _ h => h) (Or.inl ⟨by rfl, fun W hW => by go_simp⟩) (by assumption) ?_
  (try simp only [Act.put, List.getElem_toArray, List.getElem_cons_succ, List.getElem_cons_zero, List.setIfInBounds_toArray, List.set_cons_zero, List.set_cons_succ])
  refine wpAnyH_ready (rs := [5]) (by kernel_rfl) (by simp) (AllReadyH.cons rfl (fun K hK => ?_) AllReadyH.nil)
  rw [if_pos (by rfl)]
  refine wp_store_mid 36 _ _ rfl (G + 1) 4 38 (leaseL s e0 u k2 D) (Hs.bvs V) rfl rfl Kx.out VI.out VF.out VO.out rfl ?_
  rw [VS.out]
  have Kx5 := Lib.hid (show Blk (w4.setRow (G + 1) (leaseL s e0 u k2 V).toArray) (G + 1) 38 (leaseC s e0 u k2 V) from Kx.out.row_ _)
  have Kk5 := Lib.hid (show Blk (w4.setRow (G + 1) (leaseL s e0 u k2 V).toArray) G 26 #[.int .i64 k1, .int .i64 k2, .string k3, .int .i64 k4, .int .i64 k5] from Kk.out.rowfar (by omega) _)
  have Kr5 := Lib.hid (show Blk (w4.setRow (G + 1) (leaseL s e0 u k2 V).toArray) (G + 1 + 1) 38 #[.int .i64 0, .int .i64 0, .int .i64 0, .int .i64 0, .int .u8 0, .int .u8 0, .int .u8 0, .int .u8 0, .int .u8 0, .int .u8 0, .int .u8 0, .int .u8 0, .int .u8 0, .int .u8 0, .int .u8 0, .int .u8 0, .int .u8 0, .int .u8 0, .int .u8 0, .int .u8 0] from Kr.out.rowfar (by omega) _)
  have B5 := Lib.hid (show Below w.heap.size w (w4.setRow (G + 1) (leaseL s e0 u k2 V).toArray) from below_setRow B.out (show w.heap.size ≤ G + 1 by have := HG.out; omega) _)
  refine hK _ _ Kk5.out (fun hHeld4 => ?_)
  clear hK K
  (try simp only [Act.put, List.getElem_toArray, List.getElem_cons_succ, List.getElem_cons_zero, List.setIfInBounds_toArray, List.set_cons_zero, List.set_cons_succ])
  refine wpAnyH_done (by kernel_rfl) ?_ _
  generalize (w4.setRow (G + 1) (leaseL s e0 u k2 V).toArray) = w5 at Kx5 Kr5 B5 ⊢
  have Hx := Lib.hid (show Hs.Blk w5 (G + 1) 38 (leaseC s e0 u k2 V) from Kx5.out)
  have Hr := Lib.hid (show Hs.Blk w5 (G + 1 + 1) 38 #[.int .i64 0, .int .i64 0, .int .i64 0, .int .i64 0, .int .u8 0, .int .u8 0, .int .u8 0, .int .u8 0, .int .u8 0, .int .u8 0, .int .u8 0, .int .u8 0, .int .u8 0, .int .u8 0, .int .u8 0, .int .u8 0, .int .u8 0, .int .u8 0, .int .u8 0, .int .u8 0] from Kr5.out)
  go_wp2_with (first | (with_reducible refine Hs.wpList_load_all rfl 38 _ rfl (G + 1) rfl 38 (leaseC s e0 u k2 V) _ Hx.out Tryd.underlying38 LJ.out ?_) | (with_reducible refine Hs.wpList_store_blk rfl 38 _ _ rfl (G + 1 + 1) 38 _ (leaseC s e0 u k2 V) rfl rfl Hr.out LJ.out LS.out LO.out rfl ?_))
  refine bodyPost_ret (v := .agg (leaseC s e0 u k2 V)) (results_cell_row rfl _ _ _ 38 _ (0, 0) _ rfl (Kr5.out.row_ _) Tryd.underlying38 rfl LJ.out) rfl ⟨rfl, below_setRow B5.out (show w.heap.size ≤ G + 1 + 1 by have := HG.out; omega) _⟩
end Go.Proofs.YteblnmhaohbkkaaDoor
