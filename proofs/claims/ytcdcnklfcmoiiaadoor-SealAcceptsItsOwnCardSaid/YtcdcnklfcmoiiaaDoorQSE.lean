/- Contracts: SealEpoch of the program. -/
import Derived.Test.YtcdcnklfcmoiiaaDoorQCE
import Derived.Deep.RegionHeld
namespace Go.Proofs.YtcdcnklfcmoiiaaDoor
set_option linter.unusedVariables false
set_option linter.unusedSimpArgs false
open Go.RowKit Go.Sort
/-- Both rows lie at or behind a place. -/
def FrE (a1 a2 : Option Addr) (B : Nat) : Prop := (∀ p, a1 = some p → B ≤ p.block) ∧ (∀ p, a2 = some p → B ≤ p.block)
set_option maxRecDepth 100000 in
set_option maxHeartbeats 2000000 in
theorem sealEpoch_fr (k : Rw) (nu lo hi se : Int) (B : List Nat) (S : List Nat) (pa : Option Addr) (pc : Nat) (pl : List Pu) (ra : Option Addr) (rc : Nat) (rl : List Dg) (w : World) (hB : B.length = 16) (hS : S.length = 16) (hb : ∀ x ∈ B, x < 256) (hnu : i64Ok nu) (hlo : i64Ok lo) (hhi : i64Ok hi) (hse : i64Ok se) (hT : EpOk pl rl) (hk : i64Ok k.1 ∧ i64Ok k.2.1) (hs : k.2.2.1.size ≤ 400) (hm : EpM w pa pl ra rl) (hla : Hs.LaidC w) :
    Calls Tryd.prog 41 #[.agg (encR k).toArray, .agg (recC [.int .i64 nu] B [.int .i64 lo, .int .i64 hi, .slice pa pl.length pc, .slice ra rl.length rc, .int .i64 se] S)] w fun e w' => ∃ a1 c1 a2 c2, e = .returned (.agg (recC [.int .i64 nu] B [.int .i64 lo, .int .i64 hi, .slice a1 pl.length c1, .slice a2 rl.length c2, .int .i64 k.2.1] (mkS 42 k.2.2.1 (epochP nu lo hi k.2.1 B pl rl)))) ∧ EpM w' a1 pl a2 rl ∧ FrE a1 a2 w.heap.size ∧ Below w.heap.size w w' := by
  have HLA := Lib.hid hla
  have HMM := Lib.hid hm
  have hk1 : i64Ok k.1 := hk.1
  have hk2 : i64Ok k.2.1 := hk.2
  obtain ⟨k1, k2, k3, k4, k5⟩ := k
  simp only at hs hk1 hk2
  have HP := Lib.hid (fun (a1 a2 : Option Addr) (c1 c2 : Nat) (X : World) (h : EpM X a1 pl a2 rl) => epochParts_any nu lo hi k2 B S a1 c1 pl a2 c2 rl X hB hb hnu hlo hhi hk2 hT h)
  have PS := epochP_le hB hnu hlo hhi hk2 hT
  have hpl : (epochP nu lo hi k2 B pl rl).length ≤ 36 := by rw [epochP_len]; have := hT.1; have := hT.2.1; omega
  have HM := Lib.hid (fun (a : Option Addr) (c : Nat) (X : World) (h : StR X a (epochP nu lo hi k2 B pl rl)) (hla : Hs.LaidC X) => make_any (k1, k2, k3, k4, k5) 42 42 a c (epochP nu lo hi k2 B pl rl) X rfl h ⟨hpl, PS⟩ hs hla)
  have CL1 := Lib.hid (fun (X : World) (h : RowsA 3 encPu X pa pl) => Cp.clone_any pa pc pl X h (by have := hT.1; omega))
  have CL2 := Lib.hid (fun (X : World) (h : RowsA 16 encDg X ra rl) => Cd.clone_any ra rc rl X h (by have := hT.2.1; omega))
  simp only [encR, List.cons_append, List.nil_append] at HM
  simp only [encR]
  obtain ⟨P, hP⟩ : ∃ P, epochP nu lo hi k2 B pl rl = P := ⟨_, rfl⟩
  simp only [hP] at HM HP
  rw [hP]
  obtain ⟨np, hnp⟩ : ∃ n, P.length = n := ⟨_, rfl⟩
  simp only [hnp] at HM HP
  obtain ⟨V, hV⟩ : ∃ V, mkS 42 k3 P = V := ⟨_, rfl⟩
  have hVl : V.length = 16 := by rw [← hV]; exact mkS_len _ _ _
  simp only [hV] at HM
  rw [hV]
  have VI := Lib.hid (show (Tryd.prog.info? 50).map (·.size) = some (Hs.bvs V).size by rw [Hs.bvs_size, hVl]; kernel_rfl)
  have VO := Lib.hid (Hs.bvs_one V)
  have VL := Lib.hid hVl
  have HB := Lib.hid hB
  have HSl := Lib.hid hS
  have KI := Lib.hid (show (Tryd.prog.info? 24).map (·.size) = some (#[.int .i64 k1, .int .i64 k2, .string k3, .int .i64 k4, .int .i64 k5] : Array Value).size from by kernel_rfl)
  clear hla hk hk1 hk2 hs PS hpl hP hV hVl hnp hB hS hb hnu hlo hhi hse hT hm
  obtain ⟨C, hC⟩ : ∃ C, (recC [.int .i64 nu] B [.int .i64 lo, .int .i64 hi, .slice pa pl.length pc, .slice ra rl.length rc, .int .i64 se] S) = C := ⟨_, rfl⟩
  obtain ⟨G, hG⟩ : ∃ G, w.heap.size = G := ⟨_, rfl⟩
  have HG := Lib.hid hG
  have Kk := Lib.hid (show Blk (((w.alloc (.cells #[.int .i64 k1, .int .i64 k2, .string k3, .int .i64 k4, .int .i64 k5] 24)).alloc (.cells C 62)).alloc (.cells #[.int .i64 0, .int .u8 0, .int .u8 0, .int .u8 0, .int .u8 0, .int .u8 0, .int .u8 0, .int .u8 0, .int .u8 0, .int .u8 0, .int .u8 0, .int .u8 0, .int .u8 0, .int .u8 0, .int .u8 0, .int .u8 0, .int .u8 0, .int .i64 0, .int .i64 0, .slice none 0 0, .slice none 0 0, .int .i64 0, .int .u8 0, .int .u8 0, .int .u8 0, .int .u8 0, .int .u8 0, .int .u8 0, .int .u8 0, .int .u8 0, .int .u8 0, .int .u8 0, .int .u8 0, .int .u8 0, .int .u8 0, .int .u8 0, .int .u8 0, .int .u8 0] 62)) G 24 #[.int .i64 k1, .int .i64 k2, .string k3, .int .i64 k4, .int .i64 k5] from ((Blk.new' w _ _ _ hG rfl).alloc _).alloc _)
  have Kx := Lib.hid (show Blk (((w.alloc (.cells #[.int .i64 k1, .int .i64 k2, .string k3, .int .i64 k4, .int .i64 k5] 24)).alloc (.cells C 62)).alloc (.cells #[.int .i64 0, .int .u8 0, .int .u8 0, .int .u8 0, .int .u8 0, .int .u8 0, .int .u8 0, .int .u8 0, .int .u8 0, .int .u8 0, .int .u8 0, .int .u8 0, .int .u8 0, .int .u8 0, .int .u8 0, .int .u8 0, .int .u8 0, .int .i64 0, .int .i64 0, .slice none 0 0, .slice none 0 0, .int .i64 0, .int .u8 0, .int .u8 0, .int .u8 0, .int .u8 0, .int .u8 0, .int .u8 0, .int .u8 0, .int .u8 0, .int .u8 0, .int .u8 0, .int .u8 0, .int .u8 0, .int .u8 0, .int .u8 0, .int .u8 0, .int .u8 0] 62)) (G + 1) 62 (recC [.int .i64 nu] B [.int .i64 lo, .int .i64 hi, .slice pa pl.length pc, .slice ra rl.length rc, .int .i64 se] S) from by rw [hC]; exact (Blk.new' _ _ _ _ (by rw [World.size_alloc, hG]) rfl).alloc _)
  have Kr := Lib.hid (show Blk (((w.alloc (.cells #[.int .i64 k1, .int .i64 k2, .string k3, .int .i64 k4, .int .i64 k5] 24)).alloc (.cells C 62)).alloc (.cells #[.int .i64 0, .int .u8 0, .int .u8 0, .int .u8 0, .int .u8 0, .int .u8 0, .int .u8 0, .int .u8 0, .int .u8 0, .int .u8 0, .int .u8 0, .int .u8 0, .int .u8 0, .int .u8 0, .int .u8 0, .int .u8 0, .int .u8 0, .int .i64 0, .int .i64 0, .slice none 0 0, .slice none 0 0, .int .i64 0, .int .u8 0, .int .u8 0, .int .u8 0, .int .u8 0, .int .u8 0, .int .u8 0, .int .u8 0, .int .u8 0, .int .u8 0, .int .u8 0, .int .u8 0, .int .u8 0, .int .u8 0, .int .u8 0, .int .u8 0, .int .u8 0] 62)) (G + 1 + 1) 62 #[.int .i64 0, .int .u8 0, .int .u8 0, .int .u8 0, .int .u8 0, .int .u8 0, .int .u8 0, .int .u8 0, .int .u8 0, .int .u8 0, .int .u8 0, .int .u8 0, .int .u8 0, .int .u8 0, .int .u8 0, .int .u8 0, .int .u8 0, .int .i64 0, .int .i64 0, .slice none 0 0, .slice none 0 0, .int .i64 0, .int .u8 0, .int .u8 0, .int .u8 0, .int .u8 0, .int .u8 0, .int .u8 0, .int .u8 0, .int .u8 0, .int .u8 0, .int .u8 0, .int .u8 0, .int .u8 0, .int .u8 0, .int .u8 0, .int .u8 0, .int .u8 0] from Blk.new' _ _ _ _ (by rw [World.size_alloc, World.size_alloc, hG]) rfl)
  have BW := Lib.hid (show Below w.heap.size w (((w.alloc (.cells #[.int .i64 k1, .int .i64 k2, .string k3, .int .i64 k4, .int .i64 k5] 24)).alloc (.cells C 62)).alloc (.cells #[.int .i64 0, .int .u8 0, .int .u8 0, .int .u8 0, .int .u8 0, .int .u8 0, .int .u8 0, .int .u8 0, .int .u8 0, .int .u8 0, .int .u8 0, .int .u8 0, .int .u8 0, .int .u8 0, .int .u8 0, .int .u8 0, .int .u8 0, .int .i64 0, .int .i64 0, .slice none 0 0, .slice none 0 0, .int .i64 0, .int .u8 0, .int .u8 0, .int .u8 0, .int .u8 0, .int .u8 0, .int .u8 0, .int .u8 0, .int .u8 0, .int .u8 0, .int .u8 0, .int .u8 0, .int .u8 0, .int .u8 0, .int .u8 0, .int .u8 0, .int .u8 0] 62)) by (repeat' (first | (with_reducible exact Below.refl _ _) | (with_reducible assumption) | (with_reducible refine Below.alloc ?_ ?_ _) | (with_reducible refine Below.drew ?_) | (with_reducible refine below_dn ?_) | (with_reducible refine Below.setCell ?_ ?_ _) | (with_reducible exact Nat.le_refl _) | omega | (simp only [World.size_alloc, World.size_setCell, World.size_drew]; omega) | (simp; omega) | (simp; done))))
  rw [hC]
  clear hC
  go_enter Tryd.func41, Tryd.ntmps41
  go_upto_region 1 with (fail)
  try rw [hG]
  generalize hw0 : (((w.alloc (.cells #[.int .i64 k1, .int .i64 k2, .string k3, .int .i64 k4, .int .i64 k5] 24)).alloc (.cells C 62)).alloc (.cells #[.int .i64 0, .int .u8 0, .int .u8 0, .int .u8 0, .int .u8 0, .int .u8 0, .int .u8 0, .int .u8 0, .int .u8 0, .int .u8 0, .int .u8 0, .int .u8 0, .int .u8 0, .int .u8 0, .int .u8 0, .int .u8 0, .int .u8 0, .int .i64 0, .int .i64 0, .slice none 0 0, .slice none 0 0, .int .i64 0, .int .u8 0, .int .u8 0, .int .u8 0, .int .u8 0, .int .u8 0, .int .u8 0, .int .u8 0, .int .u8 0, .int .u8 0, .int .u8 0, .int .u8 0, .int .u8 0, .int .u8 0, .int .u8 0, .int .u8 0, .int .u8 0] 62)) = w0 at Kk Kx Kr BW ⊢
  clear hw0 hG
  have GZ := Lib.hid (show G + 1 + 1 < w0.heap.size from Kr.out.lt)
  have B0 := Lib.hid (Below.refl w0.heap.size w0)
  refine wp_region_held_drew (S := fun W => True) (by kernel_rfl) trivial (fun hHeld => ?_)
  skip
  replace Kx := Lib.hid Kx.out.drew
  replace Kk := Lib.hid Kk.out.drew
  replace Kr := Lib.hid Kr.out.drew
  replace B0 := Lib.hid B0.out.drew
  generalize w0.drew = w1 at Kx Kk Kr B0 ⊢
  refine wpAnyH_take (i := 0) (v := .pointer (some ⟨G + 1, 19, none⟩)) rfl (by kernel_rfl) (by kernel_rfl) (by kernel_rfl) (fun _ _ _ h => h) (Or.inl ⟨by rfl, fun W hW => by go_simp⟩) (by assumption) ?_
  (try simp only [Act.put, List.getElem_toArray, List.getElem_cons_succ, List.getElem_cons_zero, List.setIfInBounds_toArray, List.set_cons_zero, List.set_cons_succ])
  refine wpAnyH_take (i := 3) (v := .pointer (some ⟨G + 1, 20, none⟩)) rfl (by kernel_rfl) (by kernel_rfl) (by kernel_rfl) (fun _ _ _ h => h) (Or.inl ⟨by rfl, fun W hW => by go_simp⟩) (by assumption) ?_
  (try simp only [Act.put, List.getElem_toArray, List.getElem_cons_succ, List.getElem_cons_zero, List.setIfInBounds_toArray, List.set_cons_zero, List.set_cons_succ])
  refine wpAnyH_ready (rs := [1, 4]) (by kernel_rfl) (by simp) (AllReadyH.cons rfl (fun K hK => ?_) (AllReadyH.cons rfl (fun K hK => ?_) AllReadyH.nil))
  · obtain ⟨xa0, xc0, xc1, xc2, xc3, xc4⟩ := epoch_cells HB.out Kx.out
    go_simp
    clear xa0 xc0 xc1 xc2 xc3 xc4
    refine hK _ _ trivial (fun hHeld => ?_)
    clear hK K
    (try simp only [Act.put, List.getElem_toArray, List.getElem_cons_succ, List.getElem_cons_zero, List.setIfInBounds_toArray, List.set_cons_zero, List.set_cons_succ])
    refine wpAnyH_ready (rs := [2, 4]) (by kernel_rfl) (by simp) (AllReadyH.cons rfl (fun K hK => ?_) (AllReadyH.cons rfl (fun K hK => ?_) AllReadyH.nil))
    · go_simp
      refine (CL1.out _ (HMM.out.mono (BW.out.trans (B0.out.mono BW.out.size))).1).mono ?_
      rintro e9 w2 ⟨v1, rfl, ho, hb⟩
      have HO1 := Lib.hid (OwnR.weak ho B0.out.size)
      clear ho
      replace Kx := Lib.hid (Kx.out.below hb Kx.out.lt)
      replace Kk := Lib.hid (Kk.out.below hb Kk.out.lt)
      replace Kr := Lib.hid (Kr.out.below hb Kr.out.lt)
      replace B0 := Lib.hid (B0.out.trans (hb.mono B0.out.size))
      obtain ⟨a1, c1, rfl, -, -⟩ := OwnR.view encPu_len HO1.out
      clear hb
      go_wp2_with fail
      refine hK _ _ trivial (fun hHeld => ?_)
      clear hK K
      (try simp only [Act.put, List.getElem_toArray, List.getElem_cons_succ, List.getElem_cons_zero, List.setIfInBounds_toArray, List.set_cons_zero, List.set_cons_succ])
      refine wpAnyH_ready (rs := [4]) (by kernel_rfl) (by simp) (AllReadyH.cons rfl (fun K hK => ?_) AllReadyH.nil)
      obtain ⟨xa0, xc0, xc1, xc2, xc3, xc4⟩ := epoch_cells HB.out Kx.out
      go_simp
      clear xa0 xc0 xc1 xc2 xc3 xc4
      refine hK _ _ trivial (fun hHeld => ?_)
      clear hK K
      (try simp only [Act.put, List.getElem_toArray, List.getElem_cons_succ, List.getElem_cons_zero, List.setIfInBounds_toArray, List.set_cons_zero, List.set_cons_succ])
      refine wpAnyH_take (i := 6) (v := .pointer (some ⟨G + 1, 19, none⟩)) rfl (by kernel_rfl) (by kernel_rfl) (by kernel_rfl) (fun _ _ _ h => h) (Or.inl ⟨by rfl, fun W hW => by go_simp⟩) (by assumption) ?_
      (try simp only [Act.put, List.getElem_toArray, List.getElem_cons_succ, List.getElem_cons_zero, List.setIfInBounds_toArray, List.set_cons_zero, List.set_cons_succ])
      refine wpAnyH_ready (rs := [5]) (by kernel_rfl) (by simp) (AllReadyH.cons rfl (fun K hK => ?_) AllReadyH.nil)
      go_simp
      refine (CL2.out _ (HMM.out.mono (BW.out.trans (B0.out.mono BW.out.size))).2).mono ?_
      rintro e9 wq ⟨v2, rfl, ho, hb⟩
      have HO2 := Lib.hid (OwnR.weak ho B0.out.size)
      clear ho
      replace Kx := Lib.hid (Kx.out.below hb Kx.out.lt)
      replace Kk := Lib.hid (Kk.out.below hb Kk.out.lt)
      replace Kr := Lib.hid (Kr.out.below hb Kr.out.lt)
      replace B0 := Lib.hid (B0.out.trans (hb.mono B0.out.size))
      replace HO1 := Lib.hid (HO1.out.below hb)
      obtain ⟨a2, c2, rfl, -, -⟩ := OwnR.view encDg_len HO2.out
      clear hb
      go_wp2_with fail
      refine hK _ _ trivial (fun hHeld => ?_)
      clear hK K
      (try simp only [Act.put, List.getElem_toArray, List.getElem_cons_succ, List.getElem_cons_zero, List.setIfInBounds_toArray, List.set_cons_zero, List.set_cons_succ])
      have B1 := Lib.hid (BW.out.trans (B0.out.mono BW.out.size))
      clear B0
      refine wpAnyH_ready (rs := [7]) (by kernel_rfl) (by simp) (AllReadyH.cons rfl (fun K hK => ?_) AllReadyH.nil)
      obtain ⟨xa0, xc0, xc1, xc2, xc3, xc4⟩ := epoch_cells HB.out Kx.out
      have fx := fun q => Kx.out.frozen q
      go_simp
      clear fx xa0 xc0 xc1 xc2 xc3 xc4
      replace Kx := Lib.hid (show Blk (wq.setCell ⟨G + 1, 19, none⟩ (.slice a1 pl.length c1)) (G + 1) 62 (recC [.int .i64 nu] B [.int .i64 lo, .int .i64 hi, .slice a1 pl.length c1, .slice ra rl.length rc, .int .i64 se] S) from by have h := Kx.out.set_ 19 (.slice a1 pl.length c1); rw [rec_set _ _ _ _ HB.out 19 2 _ rfl (by simp)] at h; exact h)
      replace Kk := Lib.hid (show Blk (wq.setCell ⟨G + 1, 19, none⟩ (.slice a1 pl.length c1)) G 24 #[.int .i64 k1, .int .i64 k2, .string k3, .int .i64 k4, .int .i64 k5] from Kk.out.far (p := ⟨G + 1, 19, none⟩) (by simp) (.slice a1 pl.length c1))
      replace Kr := Lib.hid (show Blk (wq.setCell ⟨G + 1, 19, none⟩ (.slice a1 pl.length c1)) (G + 1 + 1) 62 #[.int .i64 0, .int .u8 0, .int .u8 0, .int .u8 0, .int .u8 0, .int .u8 0, .int .u8 0, .int .u8 0, .int .u8 0, .int .u8 0, .int .u8 0, .int .u8 0, .int .u8 0, .int .u8 0, .int .u8 0, .int .u8 0, .int .u8 0, .int .i64 0, .int .i64 0, .slice none 0 0, .slice none 0 0, .int .i64 0, .int .u8 0, .int .u8 0, .int .u8 0, .int .u8 0, .int .u8 0, .int .u8 0, .int .u8 0, .int .u8 0, .int .u8 0, .int .u8 0, .int .u8 0, .int .u8 0, .int .u8 0, .int .u8 0, .int .u8 0, .int .u8 0] from Kr.out.far (p := ⟨G + 1, 19, none⟩) (by simp) (.slice a1 pl.length c1))
      replace HO1 := Lib.hid (HO1.out.far (p := ⟨G + 1, 19, none⟩) (show G + 1 < w0.heap.size by have := GZ.out; omega) (.slice a1 pl.length c1))
      replace HO2 := Lib.hid (HO2.out.far (p := ⟨G + 1, 19, none⟩) (show G + 1 < w0.heap.size by have := GZ.out; omega) (.slice a1 pl.length c1))
      replace B1 := Lib.hid (show Below w.heap.size w (wq.setCell ⟨G + 1, 19, none⟩ (.slice a1 pl.length c1)) from B1.out.setCell (p := ⟨G + 1, 19, none⟩) (show w.heap.size ≤ G + 1 by have := HG.out; omega) (.slice a1 pl.length c1))
      refine hK _ _ trivial (fun hHeld => ?_)
      clear hK K
      (try simp only [Act.put, List.getElem_toArray, List.getElem_cons_succ, List.getElem_cons_zero, List.setIfInBounds_toArray, List.set_cons_zero, List.set_cons_succ])
      generalize hw1 : (wq.setCell ⟨G + 1, 19, none⟩ (.slice a1 pl.length c1)) = wr at Kk Kx Kr HO1 HO2 B1 ⊢
      clear hw1
      refine wpAnyH_take (i := 8) (v := .pointer (some ⟨G + 1, 20, none⟩)) rfl (by kernel_rfl) (by kernel_rfl) (by kernel_rfl) (fun _ _ _ h => h) (Or.inl ⟨by rfl, fun W hW => by go_simp⟩) (by assumption) ?_
      (try simp only [Act.put, List.getElem_toArray, List.getElem_cons_succ, List.getElem_cons_zero, List.setIfInBounds_toArray, List.set_cons_zero, List.set_cons_succ])
      refine wpAnyH_ready (rs := [9]) (by kernel_rfl) (by simp) (AllReadyH.cons rfl (fun K hK => ?_) AllReadyH.nil)
      obtain ⟨xa0, xc0, xc1, xc2, xc3, xc4⟩ := epoch_cells HB.out Kx.out
      have fx := fun q => Kx.out.frozen q
      go_simp
      clear fx xa0 xc0 xc1 xc2 xc3 xc4
      replace Kx := Lib.hid (show Blk (wr.setCell ⟨G + 1, 20, none⟩ (.slice a2 rl.length c2)) (G + 1) 62 (recC [.int .i64 nu] B [.int .i64 lo, .int .i64 hi, .slice a1 pl.length c1, .slice a2 rl.length c2, .int .i64 se] S) from by have h := Kx.out.set_ 20 (.slice a2 rl.length c2); rw [rec_set _ _ _ _ HB.out 20 3 _ rfl (by simp)] at h; exact h)
      replace Kk := Lib.hid (show Blk (wr.setCell ⟨G + 1, 20, none⟩ (.slice a2 rl.length c2)) G 24 #[.int .i64 k1, .int .i64 k2, .string k3, .int .i64 k4, .int .i64 k5] from Kk.out.far (p := ⟨G + 1, 20, none⟩) (by simp) (.slice a2 rl.length c2))
      replace Kr := Lib.hid (show Blk (wr.setCell ⟨G + 1, 20, none⟩ (.slice a2 rl.length c2)) (G + 1 + 1) 62 #[.int .i64 0, .int .u8 0, .int .u8 0, .int .u8 0, .int .u8 0, .int .u8 0, .int .u8 0, .int .u8 0, .int .u8 0, .int .u8 0, .int .u8 0, .int .u8 0, .int .u8 0, .int .u8 0, .int .u8 0, .int .u8 0, .int .u8 0, .int .i64 0, .int .i64 0, .slice none 0 0, .slice none 0 0, .int .i64 0, .int .u8 0, .int .u8 0, .int .u8 0, .int .u8 0, .int .u8 0, .int .u8 0, .int .u8 0, .int .u8 0, .int .u8 0, .int .u8 0, .int .u8 0, .int .u8 0, .int .u8 0, .int .u8 0, .int .u8 0, .int .u8 0] from Kr.out.far (p := ⟨G + 1, 20, none⟩) (by simp) (.slice a2 rl.length c2))
      replace HO1 := Lib.hid (HO1.out.far (p := ⟨G + 1, 20, none⟩) (show G + 1 < w0.heap.size by have := GZ.out; omega) (.slice a2 rl.length c2))
      replace HO2 := Lib.hid (HO2.out.far (p := ⟨G + 1, 20, none⟩) (show G + 1 < w0.heap.size by have := GZ.out; omega) (.slice a2 rl.length c2))
      replace B1 := Lib.hid (show Below w.heap.size w (wr.setCell ⟨G + 1, 20, none⟩ (.slice a2 rl.length c2)) from B1.out.setCell (p := ⟨G + 1, 20, none⟩) (show w.heap.size ≤ G + 1 by have := HG.out; omega) (.slice a2 rl.length c2))
      refine hK _ _ trivial (fun hHeld => ?_)
      clear hK K
      (try simp only [Act.put, List.getElem_toArray, List.getElem_cons_succ, List.getElem_cons_zero, List.setIfInBounds_toArray, List.set_cons_zero, List.set_cons_succ])
      generalize hw1 : (wr.setCell ⟨G + 1, 20, none⟩ (.slice a2 rl.length c2)) = ws at Kk Kx Kr HO1 HO2 B1 ⊢
      clear hw1
      refine wpAnyH_done (by kernel_rfl) ?_ _
      have VF := Lib.hid (show 22 + (Hs.bvs V).size ≤ (recL [.int .i64 nu] B [.int .i64 lo, .int .i64 hi, .slice a1 pl.length c1, .slice a2 rl.length c2, .int .i64 k2] S).length by rw [Hs.bvs_size, VL.out]; unfold recL; simp [HB.out, HSl.out])
      have VS := Lib.hid (rec_splice [.int .i64 nu] B [.int .i64 lo, .int .i64 hi, .slice a1 pl.length c1, .slice a2 rl.length c2, .int .i64 k2] S V HB.out HSl.out VL.out 22 rfl)
      have LI := Lib.hid (show (Tryd.prog.info? 62).map (·.size) = some (recC [.int .i64 nu] B [.int .i64 lo, .int .i64 hi, .slice a1 pl.length c1, .slice a2 rl.length c2, .int .i64 k2] S).size by rw [rec_size _ _ _ _ HB.out HSl.out]; kernel_rfl)
      have LJ := Lib.hid (show (Tryd.prog.info? 62).map (·.size) = some (recC [.int .i64 nu] B [.int .i64 lo, .int .i64 hi, .slice a1 pl.length c1, .slice a2 rl.length c2, .int .i64 k2] V).size by rw [rec_size _ _ _ _ HB.out VL.out]; kernel_rfl)
      have LS := Lib.hid (show (#[.int .i64 0, .int .u8 0, .int .u8 0, .int .u8 0, .int .u8 0, .int .u8 0, .int .u8 0, .int .u8 0, .int .u8 0, .int .u8 0, .int .u8 0, .int .u8 0, .int .u8 0, .int .u8 0, .int .u8 0, .int .u8 0, .int .u8 0, .int .i64 0, .int .i64 0, .slice none 0 0, .slice none 0 0, .int .i64 0, .int .u8 0, .int .u8 0, .int .u8 0, .int .u8 0, .int .u8 0, .int .u8 0, .int .u8 0, .int .u8 0, .int .u8 0, .int .u8 0, .int .u8 0, .int .u8 0, .int .u8 0, .int .u8 0, .int .u8 0, .int .u8 0] : Array Value).size = (recC [.int .i64 nu] B [.int .i64 lo, .int .i64 hi, .slice a1 pl.length c1, .slice a2 rl.length c2, .int .i64 k2] V).size by rw [rec_size _ _ _ _ HB.out VL.out]; rfl)
      have LO := Lib.hid (rec_one [.int .i64 nu] B [.int .i64 lo, .int .i64 hi, .slice a1 pl.length c1, .slice a2 rl.length c2, .int .i64 k2] V rfl rfl)
      obtain ⟨t0, t1, t2, t3, t4⟩ := five Kk.out
      obtain ⟨xa0, xc0, xc1, xc2, xc3, xc4⟩ := epoch_cells HB.out Kx.out
      have fx := fun q => Kx.out.frozen q
      replace Kx := Lib.hid (show Blk (ws.setCell ⟨G + 1, 21, none⟩ (.int .i64 k2)) (G + 1) 62 (recC [.int .i64 nu] B [.int .i64 lo, .int .i64 hi, .slice a1 pl.length c1, .slice a2 rl.length c2, .int .i64 k2] S) from by have h := Kx.out.set_ 21 (.int .i64 k2); rw [rec_set _ _ _ _ HB.out 21 4 _ rfl (by simp)] at h; exact h)
      replace Kk := Lib.hid (show Blk (ws.setCell ⟨G + 1, 21, none⟩ (.int .i64 k2)) G 24 #[.int .i64 k1, .int .i64 k2, .string k3, .int .i64 k4, .int .i64 k5] from Kk.out.far (p := ⟨G + 1, 21, none⟩) (by simp) (.int .i64 k2))
      replace Kr := Lib.hid (show Blk (ws.setCell ⟨G + 1, 21, none⟩ (.int .i64 k2)) (G + 1 + 1) 62 #[.int .i64 0, .int .u8 0, .int .u8 0, .int .u8 0, .int .u8 0, .int .u8 0, .int .u8 0, .int .u8 0, .int .u8 0, .int .u8 0, .int .u8 0, .int .u8 0, .int .u8 0, .int .u8 0, .int .u8 0, .int .u8 0, .int .u8 0, .int .i64 0, .int .i64 0, .slice none 0 0, .slice none 0 0, .int .i64 0, .int .u8 0, .int .u8 0, .int .u8 0, .int .u8 0, .int .u8 0, .int .u8 0, .int .u8 0, .int .u8 0, .int .u8 0, .int .u8 0, .int .u8 0, .int .u8 0, .int .u8 0, .int .u8 0, .int .u8 0, .int .u8 0] from Kr.out.far (p := ⟨G + 1, 21, none⟩) (by simp) (.int .i64 k2))
      replace HO1 := Lib.hid (HO1.out.far (p := ⟨G + 1, 21, none⟩) (show G + 1 < w0.heap.size by have := GZ.out; omega) (.int .i64 k2))
      replace HO2 := Lib.hid (HO2.out.far (p := ⟨G + 1, 21, none⟩) (show G + 1 < w0.heap.size by have := GZ.out; omega) (.int .i64 k2))
      replace B1 := Lib.hid (show Below w.heap.size w (ws.setCell ⟨G + 1, 21, none⟩ (.int .i64 k2)) from B1.out.setCell (p := ⟨G + 1, 21, none⟩) (show w.heap.size ≤ G + 1 by have := HG.out; omega) (.int .i64 k2))
      go_upto_region 3 with (fail)
      generalize hw1 : (ws.setCell ⟨G + 1, 21, none⟩ (.int .i64 k2)) = wt at Kk Kx Kr HO1 HO2 B1 ⊢
      clear hw1 t0 t1 t2 t3 t4 fx xa0 xc0 xc1 xc2 xc3 xc4
      refine wp_region_held_drew (S := fun W => Blk W G 24 #[.int .i64 k1, .int .i64 k2, .string k3, .int .i64 k4, .int .i64 k5]) (by kernel_rfl) Kk.out.drew (fun hHeld => ?_)
      replace Kx := Lib.hid Kx.out.drew
      replace Kk := Lib.hid Kk.out.drew
      replace Kr := Lib.hid Kr.out.drew
      replace HO1 := Lib.hid HO1.out.drew
      replace HO2 := Lib.hid HO2.out.drew
      replace B1 := Lib.hid B1.out.drew
      generalize wt.drew = wc at Kx Kk Kr HO1 HO2 B1 hHeld ⊢
      refine wpAnyH_take (i := 0) (v := .agg #[.int .i64 k1, .int .i64 k2, .string k3, .int .i64 k4, .int .i64 k5]) rfl (by kernel_rfl) (by kernel_rfl) (by kernel_rfl) (fun _ _ _ h => h) (Or.inl ⟨by rfl, fun W hW => exec_load_row 24 _ rfl G rfl 24 #[.int .i64 k1, .int .i64 k2, .string k3, .int .i64 k4, .int .i64 k5] (0, 0) _ hW Tryd.underlying24 rfl KI.out⟩) (by assumption) ?_
      (try simp only [Act.put, List.getElem_toArray, List.getElem_cons_succ, List.getElem_cons_zero, List.setIfInBounds_toArray, List.set_cons_zero, List.set_cons_succ])
      refine wpAnyH_ready (rs := [1]) (by kernel_rfl) (by simp) (AllReadyH.cons rfl (fun K hK => ?_) AllReadyH.nil)
      rw [if_pos (by rfl)]
      refine wp_load_row 62 _ rfl (G + 1) rfl 62 (recC [.int .i64 nu] B [.int .i64 lo, .int .i64 hi, .slice a1 pl.length c1, .slice a2 rl.length c2, .int .i64 k2] S) _ Kx.out Tryd.underlying62 rfl LI.out ?_
      refine hK _ _ hHeld (fun hHeld1 => ?_)
      clear hK K
      (try simp only [Act.put, List.getElem_toArray, List.getElem_cons_succ, List.getElem_cons_zero, List.setIfInBounds_toArray, List.set_cons_zero, List.set_cons_succ])
      refine wpAnyH_ready (rs := [2]) (by kernel_rfl) (by simp) (AllReadyH.cons rfl (fun K hK => ?_) AllReadyH.nil)
      go_simp
      obtain ⟨a1x, c1x, e1x, -, m1x⟩ := OwnR.view encPu_len HO1.out
      obtain ⟨a2x, c2x, e2x, -, m2x⟩ := OwnR.view encDg_len HO2.out
      injection e1x with e1a _ e1c
      injection e2x with e2a _ e2c
      subst e1a e1c e2a e2c
      refine (HP.out _ _ _ _ _ ⟨m1x, m2x⟩).mono ?_
      clear m1x m2x
      rintro e w3 ⟨⟨a, c, rfl, hr⟩, hb⟩
      have HR := Lib.hid hr
      replace Kx := Lib.hid (Kx.out.below hb Kx.out.lt)
      replace Kk := Lib.hid (Kk.out.below hb Kk.out.lt)
      replace Kr := Lib.hid (Kr.out.below hb Kr.out.lt)
      replace HO1 := Lib.hid (HO1.out.below hb)
      replace HO2 := Lib.hid (HO2.out.below hb)
      replace B1 := Lib.hid (B1.out.trans (hb.mono B1.out.size))
      clear hb hr
      go_wp2_with fail
      refine hK _ _ Kk.out (fun hHeld2 => ?_)
      clear hK K
      (try simp only [Act.put, List.getElem_toArray, List.getElem_cons_succ, List.getElem_cons_zero, List.setIfInBounds_toArray, List.set_cons_zero, List.set_cons_succ])
      refine wpAnyH_ready (rs := [3]) (by kernel_rfl) (by simp) (AllReadyH.cons rfl (fun K hK => ?_) AllReadyH.nil)
      go_simp
      refine (HM.out a c _ HR.out (HLA.out.mono B1.out)).mono ?_
      rintro e w4 ⟨rfl, hb⟩
      replace Kx := Lib.hid (Kx.out.below hb Kx.out.lt)
      replace Kk := Lib.hid (Kk.out.below hb Kk.out.lt)
      replace Kr := Lib.hid (Kr.out.below hb Kr.out.lt)
      replace HO1 := Lib.hid (HO1.out.below hb)
      replace HO2 := Lib.hid (HO2.out.below hb)
      replace B1 := Lib.hid (B1.out.trans (hb.mono B1.out.size))
      clear hb
      go_wp2_with fail
      refine hK _ _ Kk.out (fun hHeld3 => ?_)
      clear hK K
      (try simp only [Act.put, List.getElem_toArray, List.getElem_cons_succ, List.getElem_cons_zero, List.setIfInBounds_toArray, List.set_cons_zero, List.set_cons_succ])
      refine wpAnyH_take (i := 4) (v := .pointer (some ⟨G + 1, 22, none⟩)) rfl (by kernel_rfl) (by kernel_rfl) (by kernel_rfl) (fun _ _ _ h => h) (Or.inl ⟨by rfl, fun W hW => by go_simp⟩) (by assumption) ?_
      (try simp only [Act.put, List.getElem_toArray, List.getElem_cons_succ, List.getElem_cons_zero, List.setIfInBounds_toArray, List.set_cons_zero, List.set_cons_succ])
      refine wpAnyH_ready (rs := [5]) (by kernel_rfl) (by simp) (AllReadyH.cons rfl (fun K hK => ?_) AllReadyH.nil)
      rw [if_pos (by rfl)]
      refine wp_store_mid 50 _ _ rfl (G + 1) 22 62 (recL [.int .i64 nu] B [.int .i64 lo, .int .i64 hi, .slice a1 pl.length c1, .slice a2 rl.length c2, .int .i64 k2] S) (Hs.bvs V) rfl rfl Kx.out VI.out VF.out VO.out rfl ?_
      rw [VS.out]
      have Kx5 := Lib.hid (show Blk (w4.setRow (G + 1) (recL [.int .i64 nu] B [.int .i64 lo, .int .i64 hi, .slice a1 pl.length c1, .slice a2 rl.length c2, .int .i64 k2] V).toArray) (G + 1) 62 (recC [.int .i64 nu] B [.int .i64 lo, .int .i64 hi, .slice a1 pl.length c1, .slice a2 rl.length c2, .int .i64 k2] V) from Kx.out.row_ _)
      have Kk5 := Lib.hid (show Blk (w4.setRow (G + 1) (recL [.int .i64 nu] B [.int .i64 lo, .int .i64 hi, .slice a1 pl.length c1, .slice a2 rl.length c2, .int .i64 k2] V).toArray) G 24 #[.int .i64 k1, .int .i64 k2, .string k3, .int .i64 k4, .int .i64 k5] from Kk.out.rowfar (by omega) _)
      have Kr5 := Lib.hid (show Blk (w4.setRow (G + 1) (recL [.int .i64 nu] B [.int .i64 lo, .int .i64 hi, .slice a1 pl.length c1, .slice a2 rl.length c2, .int .i64 k2] V).toArray) (G + 1 + 1) 62 #[.int .i64 0, .int .u8 0, .int .u8 0, .int .u8 0, .int .u8 0, .int .u8 0, .int .u8 0, .int .u8 0, .int .u8 0, .int .u8 0, .int .u8 0, .int .u8 0, .int .u8 0, .int .u8 0, .int .u8 0, .int .u8 0, .int .u8 0, .int .i64 0, .int .i64 0, .slice none 0 0, .slice none 0 0, .int .i64 0, .int .u8 0, .int .u8 0, .int .u8 0, .int .u8 0, .int .u8 0, .int .u8 0, .int .u8 0, .int .u8 0, .int .u8 0, .int .u8 0, .int .u8 0, .int .u8 0, .int .u8 0, .int .u8 0, .int .u8 0, .int .u8 0] from Kr.out.rowfar (by omega) _)
      have B5 := Lib.hid (show Below w.heap.size w (w4.setRow (G + 1) (recL [.int .i64 nu] B [.int .i64 lo, .int .i64 hi, .slice a1 pl.length c1, .slice a2 rl.length c2, .int .i64 k2] V).toArray) from below_setRow B1.out (show w.heap.size ≤ G + 1 by have := HG.out; omega) _)
      have O15 := Lib.hid (show Cp.OwnA (w4.setRow (G + 1) (recL [.int .i64 nu] B [.int .i64 lo, .int .i64 hi, .slice a1 pl.length c1, .slice a2 rl.length c2, .int .i64 k2] V).toArray) w0.heap.size (.slice a1 pl.length c1) pl from own_keep HO1.out fun k h1 h2 => setRow_other _ _ _ _ (by have := GZ.out; omega))
      have O25 := Lib.hid (show Cd.OwnA (w4.setRow (G + 1) (recL [.int .i64 nu] B [.int .i64 lo, .int .i64 hi, .slice a1 pl.length c1, .slice a2 rl.length c2, .int .i64 k2] V).toArray) w0.heap.size (.slice a2 rl.length c2) rl from own_keep HO2.out fun k h1 h2 => setRow_other _ _ _ _ (by have := GZ.out; omega))
      refine hK _ _ Kk5.out (fun hHeld4 => ?_)
      clear hK K
      (try simp only [Act.put, List.getElem_toArray, List.getElem_cons_succ, List.getElem_cons_zero, List.setIfInBounds_toArray, List.set_cons_zero, List.set_cons_succ])
      refine wpAnyH_done (by kernel_rfl) ?_ _
      generalize (w4.setRow (G + 1) (recL [.int .i64 nu] B [.int .i64 lo, .int .i64 hi, .slice a1 pl.length c1, .slice a2 rl.length c2, .int .i64 k2] V).toArray) = w5 at Kx5 Kr5 B5 O15 O25 ⊢
      have Hx := Lib.hid (show Hs.Blk w5 (G + 1) 62 (recC [.int .i64 nu] B [.int .i64 lo, .int .i64 hi, .slice a1 pl.length c1, .slice a2 rl.length c2, .int .i64 k2] V) from Kx5.out)
      have Hr := Lib.hid (show Hs.Blk w5 (G + 1 + 1) 62 #[.int .i64 0, .int .u8 0, .int .u8 0, .int .u8 0, .int .u8 0, .int .u8 0, .int .u8 0, .int .u8 0, .int .u8 0, .int .u8 0, .int .u8 0, .int .u8 0, .int .u8 0, .int .u8 0, .int .u8 0, .int .u8 0, .int .u8 0, .int .i64 0, .int .i64 0, .slice none 0 0, .slice none 0 0, .int .i64 0, .int .u8 0, .int .u8 0, .int .u8 0, .int .u8 0, .int .u8 0, .int .u8 0, .int .u8 0, .int .u8 0, .int .u8 0, .int .u8 0, .int .u8 0, .int .u8 0, .int .u8 0, .int .u8 0, .int .u8 0, .int .u8 0] from Kr5.out)
      go_wp2_with (first | (with_reducible refine Hs.wpList_load_all rfl 62 _ rfl (G + 1) rfl 62 (recC [.int .i64 nu] B [.int .i64 lo, .int .i64 hi, .slice a1 pl.length c1, .slice a2 rl.length c2, .int .i64 k2] V) _ Hx.out Tryd.underlying62 LJ.out ?_) | (with_reducible refine Hs.wpList_store_blk rfl 62 _ _ rfl (G + 1 + 1) 62 _ (recC [.int .i64 nu] B [.int .i64 lo, .int .i64 hi, .slice a1 pl.length c1, .slice a2 rl.length c2, .int .i64 k2] V) rfl rfl Hr.out LJ.out LS.out LO.out rfl ?_))
      have O16 := (show Cp.OwnA (w5.setRow (G + 1 + 1) (recC [.int .i64 nu] B [.int .i64 lo, .int .i64 hi, .slice a1 pl.length c1, .slice a2 rl.length c2, .int .i64 k2] V)) w0.heap.size (.slice a1 pl.length c1) pl from own_keep O15.out fun k h1 h2 => setRow_other _ _ _ _ (by have := GZ.out; omega))
      have O26 := (show Cd.OwnA (w5.setRow (G + 1 + 1) (recC [.int .i64 nu] B [.int .i64 lo, .int .i64 hi, .slice a1 pl.length c1, .slice a2 rl.length c2, .int .i64 k2] V)) w0.heap.size (.slice a2 rl.length c2) rl from own_keep O25.out fun k h1 h2 => setRow_other _ _ _ _ (by have := GZ.out; omega))
      obtain ⟨a1x, c1x, e1x, -, m1x⟩ := OwnR.view encPu_len O16
      obtain ⟨a2x, c2x, e2x, -, m2x⟩ := OwnR.view encDg_len O26
      injection e1x with e1a _ e1c
      injection e2x with e2a _ e2c
      subst e1a e1c e2a e2c
      refine bodyPost_ret (v := .agg (recC [.int .i64 nu] B [.int .i64 lo, .int .i64 hi, .slice a1 pl.length c1, .slice a2 rl.length c2, .int .i64 k2] V)) (results_cell_row rfl _ _ _ 62 _ (0, 0) _ rfl (Kr5.out.row_ _) Tryd.underlying62 rfl LJ.out) rfl ?_
      exact ⟨_, _, _, ⟨_, rfl⟩, ⟨m1x, m2x⟩, ⟨fun p hp => Nat.le_trans BW.out.size (OwnR.block O16 p hp), fun p hp => Nat.le_trans BW.out.size (OwnR.block O26 p hp)⟩, below_setRow B5.out (show w.heap.size ≤ G + 1 + 1 by have := HG.out; omega) _⟩
    · obtain ⟨xa0, xc0, xc1, xc2, xc3, xc4⟩ := epoch_cells HB.out Kx.out
      go_simp
      clear xa0 xc0 xc1 xc2 xc3 xc4
      refine hK _ _ trivial (fun hHeld => ?_)
      clear hK K
      (try simp only [Act.put, List.getElem_toArray, List.getElem_cons_succ, List.getElem_cons_zero, List.setIfInBounds_toArray, List.set_cons_zero, List.set_cons_succ])
      refine wpAnyH_ready (rs := [2]) (by kernel_rfl) (by simp) (AllReadyH.cons rfl (fun K hK => ?_) AllReadyH.nil)
      go_simp
      refine (CL1.out _ (HMM.out.mono (BW.out.trans (B0.out.mono BW.out.size))).1).mono ?_
      rintro e9 w2 ⟨v1, rfl, ho, hb⟩
      have HO1 := Lib.hid (OwnR.weak ho B0.out.size)
      clear ho
      replace Kx := Lib.hid (Kx.out.below hb Kx.out.lt)
      replace Kk := Lib.hid (Kk.out.below hb Kk.out.lt)
      replace Kr := Lib.hid (Kr.out.below hb Kr.out.lt)
      replace B0 := Lib.hid (B0.out.trans (hb.mono B0.out.size))
      obtain ⟨a1, c1, rfl, -, -⟩ := OwnR.view encPu_len HO1.out
      clear hb
      go_wp2_with fail
      refine hK _ _ trivial (fun hHeld => ?_)
      clear hK K
      (try simp only [Act.put, List.getElem_toArray, List.getElem_cons_succ, List.getElem_cons_zero, List.setIfInBounds_toArray, List.set_cons_zero, List.set_cons_succ])
      refine wpAnyH_take (i := 6) (v := .pointer (some ⟨G + 1, 19, none⟩)) rfl (by kernel_rfl) (by kernel_rfl) (by kernel_rfl) (fun _ _ _ h => h) (Or.inl ⟨by rfl, fun W hW => by go_simp⟩) (by assumption) ?_
      (try simp only [Act.put, List.getElem_toArray, List.getElem_cons_succ, List.getElem_cons_zero, List.setIfInBounds_toArray, List.set_cons_zero, List.set_cons_succ])
      refine wpAnyH_ready (rs := [5]) (by kernel_rfl) (by simp) (AllReadyH.cons rfl (fun K hK => ?_) AllReadyH.nil)
      go_simp
      refine (CL2.out _ (HMM.out.mono (BW.out.trans (B0.out.mono BW.out.size))).2).mono ?_
      rintro e9 wq ⟨v2, rfl, ho, hb⟩
      have HO2 := Lib.hid (OwnR.weak ho B0.out.size)
      clear ho
      replace Kx := Lib.hid (Kx.out.below hb Kx.out.lt)
      replace Kk := Lib.hid (Kk.out.below hb Kk.out.lt)
      replace Kr := Lib.hid (Kr.out.below hb Kr.out.lt)
      replace B0 := Lib.hid (B0.out.trans (hb.mono B0.out.size))
      replace HO1 := Lib.hid (HO1.out.below hb)
      obtain ⟨a2, c2, rfl, -, -⟩ := OwnR.view encDg_len HO2.out
      clear hb
      go_wp2_with fail
      refine hK _ _ trivial (fun hHeld => ?_)
      clear hK K
      (try simp only [Act.put, List.getElem_toArray, List.getElem_cons_succ, List.getElem_cons_zero, List.setIfInBounds_toArray, List.set_cons_zero, List.set_cons_succ])
      have B1 := Lib.hid (BW.out.trans (B0.out.mono BW.out.size))
      clear B0
      refine wpAnyH_ready (rs := [7]) (by kernel_rfl) (by simp) (AllReadyH.cons rfl (fun K hK => ?_) AllReadyH.nil)
      obtain ⟨xa0, xc0, xc1, xc2, xc3, xc4⟩ := epoch_cells HB.out Kx.out
      have fx := fun q => Kx.out.frozen q
      go_simp
      clear fx xa0 xc0 xc1 xc2 xc3 xc4
      replace Kx := Lib.hid (show Blk (wq.setCell ⟨G + 1, 19, none⟩ (.slice a1 pl.length c1)) (G + 1) 62 (recC [.int .i64 nu] B [.int .i64 lo, .int .i64 hi, .slice a1 pl.length c1, .slice ra rl.length rc, .int .i64 se] S) from by have h := Kx.out.set_ 19 (.slice a1 pl.length c1); rw [rec_set _ _ _ _ HB.out 19 2 _ rfl (by simp)] at h; exact h)
      replace Kk := Lib.hid (show Blk (wq.setCell ⟨G + 1, 19, none⟩ (.slice a1 pl.length c1)) G 24 #[.int .i64 k1, .int .i64 k2, .string k3, .int .i64 k4, .int .i64 k5] from Kk.out.far (p := ⟨G + 1, 19, none⟩) (by simp) (.slice a1 pl.length c1))
      replace Kr := Lib.hid (show Blk (wq.setCell ⟨G + 1, 19, none⟩ (.slice a1 pl.length c1)) (G + 1 + 1) 62 #[.int .i64 0, .int .u8 0, .int .u8 0, .int .u8 0, .int .u8 0, .int .u8 0, .int .u8 0, .int .u8 0, .int .u8 0, .int .u8 0, .int .u8 0, .int .u8 0, .int .u8 0, .int .u8 0, .int .u8 0, .int .u8 0, .int .u8 0, .int .i64 0, .int .i64 0, .slice none 0 0, .slice none 0 0, .int .i64 0, .int .u8 0, .int .u8 0, .int .u8 0, .int .u8 0, .int .u8 0, .int .u8 0, .int .u8 0, .int .u8 0, .int .u8 0, .int .u8 0, .int .u8 0, .int .u8 0, .int .u8 0, .int .u8 0, .int .u8 0, .int .u8 0] from Kr.out.far (p := ⟨G + 1, 19, none⟩) (by simp) (.slice a1 pl.length c1))
      replace HO1 := Lib.hid (HO1.out.far (p := ⟨G + 1, 19, none⟩) (show G + 1 < w0.heap.size by have := GZ.out; omega) (.slice a1 pl.length c1))
      replace HO2 := Lib.hid (HO2.out.far (p := ⟨G + 1, 19, none⟩) (show G + 1 < w0.heap.size by have := GZ.out; omega) (.slice a1 pl.length c1))
      replace B1 := Lib.hid (show Below w.heap.size w (wq.setCell ⟨G + 1, 19, none⟩ (.slice a1 pl.length c1)) from B1.out.setCell (p := ⟨G + 1, 19, none⟩) (show w.heap.size ≤ G + 1 by have := HG.out; omega) (.slice a1 pl.length c1))
      refine hK _ _ trivial (fun hHeld => ?_)
      clear hK K
      (try simp only [Act.put, List.getElem_toArray, List.getElem_cons_succ, List.getElem_cons_zero, List.setIfInBounds_toArray, List.set_cons_zero, List.set_cons_succ])
      generalize hw1 : (wq.setCell ⟨G + 1, 19, none⟩ (.slice a1 pl.length c1)) = wr at Kk Kx Kr HO1 HO2 B1 ⊢
      clear hw1
      refine wpAnyH_take (i := 8) (v := .pointer (some ⟨G + 1, 20, none⟩)) rfl (by kernel_rfl) (by kernel_rfl) (by kernel_rfl) (fun _ _ _ h => h) (Or.inl ⟨by rfl, fun W hW => by go_simp⟩) (by assumption) ?_
      (try simp only [Act.put, List.getElem_toArray, List.getElem_cons_succ, List.getElem_cons_zero, List.setIfInBounds_toArray, List.set_cons_zero, List.set_cons_succ])
      refine wpAnyH_ready (rs := [9]) (by kernel_rfl) (by simp) (AllReadyH.cons rfl (fun K hK => ?_) AllReadyH.nil)
      obtain ⟨xa0, xc0, xc1, xc2, xc3, xc4⟩ := epoch_cells HB.out Kx.out
      have fx := fun q => Kx.out.frozen q
      go_simp
      clear fx xa0 xc0 xc1 xc2 xc3 xc4
      replace Kx := Lib.hid (show Blk (wr.setCell ⟨G + 1, 20, none⟩ (.slice a2 rl.length c2)) (G + 1) 62 (recC [.int .i64 nu] B [.int .i64 lo, .int .i64 hi, .slice a1 pl.length c1, .slice a2 rl.length c2, .int .i64 se] S) from by have h := Kx.out.set_ 20 (.slice a2 rl.length c2); rw [rec_set _ _ _ _ HB.out 20 3 _ rfl (by simp)] at h; exact h)
      replace Kk := Lib.hid (show Blk (wr.setCell ⟨G + 1, 20, none⟩ (.slice a2 rl.length c2)) G 24 #[.int .i64 k1, .int .i64 k2, .string k3, .int .i64 k4, .int .i64 k5] from Kk.out.far (p := ⟨G + 1, 20, none⟩) (by simp) (.slice a2 rl.length c2))
      replace Kr := Lib.hid (show Blk (wr.setCell ⟨G + 1, 20, none⟩ (.slice a2 rl.length c2)) (G + 1 + 1) 62 #[.int .i64 0, .int .u8 0, .int .u8 0, .int .u8 0, .int .u8 0, .int .u8 0, .int .u8 0, .int .u8 0, .int .u8 0, .int .u8 0, .int .u8 0, .int .u8 0, .int .u8 0, .int .u8 0, .int .u8 0, .int .u8 0, .int .u8 0, .int .i64 0, .int .i64 0, .slice none 0 0, .slice none 0 0, .int .i64 0, .int .u8 0, .int .u8 0, .int .u8 0, .int .u8 0, .int .u8 0, .int .u8 0, .int .u8 0, .int .u8 0, .int .u8 0, .int .u8 0, .int .u8 0, .int .u8 0, .int .u8 0, .int .u8 0, .int .u8 0, .int .u8 0] from Kr.out.far (p := ⟨G + 1, 20, none⟩) (by simp) (.slice a2 rl.length c2))
      replace HO1 := Lib.hid (HO1.out.far (p := ⟨G + 1, 20, none⟩) (show G + 1 < w0.heap.size by have := GZ.out; omega) (.slice a2 rl.length c2))
      replace HO2 := Lib.hid (HO2.out.far (p := ⟨G + 1, 20, none⟩) (show G + 1 < w0.heap.size by have := GZ.out; omega) (.slice a2 rl.length c2))
      replace B1 := Lib.hid (show Below w.heap.size w (wr.setCell ⟨G + 1, 20, none⟩ (.slice a2 rl.length c2)) from B1.out.setCell (p := ⟨G + 1, 20, none⟩) (show w.heap.size ≤ G + 1 by have := HG.out; omega) (.slice a2 rl.length c2))
      refine hK _ _ trivial (fun hHeld => ?_)
      clear hK K
      (try simp only [Act.put, List.getElem_toArray, List.getElem_cons_succ, List.getElem_cons_zero, List.setIfInBounds_toArray, List.set_cons_zero, List.set_cons_succ])
      generalize hw1 : (wr.setCell ⟨G + 1, 20, none⟩ (.slice a2 rl.length c2)) = ws at Kk Kx Kr HO1 HO2 B1 ⊢
      clear hw1
      refine wpAnyH_done (by kernel_rfl) ?_ _
      have VF := Lib.hid (show 22 + (Hs.bvs V).size ≤ (recL [.int .i64 nu] B [.int .i64 lo, .int .i64 hi, .slice a1 pl.length c1, .slice a2 rl.length c2, .int .i64 k2] S).length by rw [Hs.bvs_size, VL.out]; unfold recL; simp [HB.out, HSl.out])
      have VS := Lib.hid (rec_splice [.int .i64 nu] B [.int .i64 lo, .int .i64 hi, .slice a1 pl.length c1, .slice a2 rl.length c2, .int .i64 k2] S V HB.out HSl.out VL.out 22 rfl)
      have LI := Lib.hid (show (Tryd.prog.info? 62).map (·.size) = some (recC [.int .i64 nu] B [.int .i64 lo, .int .i64 hi, .slice a1 pl.length c1, .slice a2 rl.length c2, .int .i64 k2] S).size by rw [rec_size _ _ _ _ HB.out HSl.out]; kernel_rfl)
      have LJ := Lib.hid (show (Tryd.prog.info? 62).map (·.size) = some (recC [.int .i64 nu] B [.int .i64 lo, .int .i64 hi, .slice a1 pl.length c1, .slice a2 rl.length c2, .int .i64 k2] V).size by rw [rec_size _ _ _ _ HB.out VL.out]; kernel_rfl)
      have LS := Lib.hid (show (#[.int .i64 0, .int .u8 0, .int .u8 0, .int .u8 0, .int .u8 0, .int .u8 0, .int .u8 0, .int .u8 0, .int .u8 0, .int .u8 0, .int .u8 0, .int .u8 0, .int .u8 0, .int .u8 0, .int .u8 0, .int .u8 0, .int .u8 0, .int .i64 0, .int .i64 0, .slice none 0 0, .slice none 0 0, .int .i64 0, .int .u8 0, .int .u8 0, .int .u8 0, .int .u8 0, .int .u8 0, .int .u8 0, .int .u8 0, .int .u8 0, .int .u8 0, .int .u8 0, .int .u8 0, .int .u8 0, .int .u8 0, .int .u8 0, .int .u8 0, .int .u8 0] : Array Value).size = (recC [.int .i64 nu] B [.int .i64 lo, .int .i64 hi, .slice a1 pl.length c1, .slice a2 rl.length c2, .int .i64 k2] V).size by rw [rec_size _ _ _ _ HB.out VL.out]; rfl)
      have LO := Lib.hid (rec_one [.int .i64 nu] B [.int .i64 lo, .int .i64 hi, .slice a1 pl.length c1, .slice a2 rl.length c2, .int .i64 k2] V rfl rfl)
      obtain ⟨t0, t1, t2, t3, t4⟩ := five Kk.out
      obtain ⟨xa0, xc0, xc1, xc2, xc3, xc4⟩ := epoch_cells HB.out Kx.out
      have fx := fun q => Kx.out.frozen q
      replace Kx := Lib.hid (show Blk (ws.setCell ⟨G + 1, 21, none⟩ (.int .i64 k2)) (G + 1) 62 (recC [.int .i64 nu] B [.int .i64 lo, .int .i64 hi, .slice a1 pl.length c1, .slice a2 rl.length c2, .int .i64 k2] S) from by have h := Kx.out.set_ 21 (.int .i64 k2); rw [rec_set _ _ _ _ HB.out 21 4 _ rfl (by simp)] at h; exact h)
      replace Kk := Lib.hid (show Blk (ws.setCell ⟨G + 1, 21, none⟩ (.int .i64 k2)) G 24 #[.int .i64 k1, .int .i64 k2, .string k3, .int .i64 k4, .int .i64 k5] from Kk.out.far (p := ⟨G + 1, 21, none⟩) (by simp) (.int .i64 k2))
      replace Kr := Lib.hid (show Blk (ws.setCell ⟨G + 1, 21, none⟩ (.int .i64 k2)) (G + 1 + 1) 62 #[.int .i64 0, .int .u8 0, .int .u8 0, .int .u8 0, .int .u8 0, .int .u8 0, .int .u8 0, .int .u8 0, .int .u8 0, .int .u8 0, .int .u8 0, .int .u8 0, .int .u8 0, .int .u8 0, .int .u8 0, .int .u8 0, .int .u8 0, .int .i64 0, .int .i64 0, .slice none 0 0, .slice none 0 0, .int .i64 0, .int .u8 0, .int .u8 0, .int .u8 0, .int .u8 0, .int .u8 0, .int .u8 0, .int .u8 0, .int .u8 0, .int .u8 0, .int .u8 0, .int .u8 0, .int .u8 0, .int .u8 0, .int .u8 0, .int .u8 0, .int .u8 0] from Kr.out.far (p := ⟨G + 1, 21, none⟩) (by simp) (.int .i64 k2))
      replace HO1 := Lib.hid (HO1.out.far (p := ⟨G + 1, 21, none⟩) (show G + 1 < w0.heap.size by have := GZ.out; omega) (.int .i64 k2))
      replace HO2 := Lib.hid (HO2.out.far (p := ⟨G + 1, 21, none⟩) (show G + 1 < w0.heap.size by have := GZ.out; omega) (.int .i64 k2))
      replace B1 := Lib.hid (show Below w.heap.size w (ws.setCell ⟨G + 1, 21, none⟩ (.int .i64 k2)) from B1.out.setCell (p := ⟨G + 1, 21, none⟩) (show w.heap.size ≤ G + 1 by have := HG.out; omega) (.int .i64 k2))
      go_upto_region 3 with (fail)
      generalize hw1 : (ws.setCell ⟨G + 1, 21, none⟩ (.int .i64 k2)) = wt at Kk Kx Kr HO1 HO2 B1 ⊢
      clear hw1 t0 t1 t2 t3 t4 fx xa0 xc0 xc1 xc2 xc3 xc4
      refine wp_region_held_drew (S := fun W => Blk W G 24 #[.int .i64 k1, .int .i64 k2, .string k3, .int .i64 k4, .int .i64 k5]) (by kernel_rfl) Kk.out.drew (fun hHeld => ?_)
      replace Kx := Lib.hid Kx.out.drew
      replace Kk := Lib.hid Kk.out.drew
      replace Kr := Lib.hid Kr.out.drew
      replace HO1 := Lib.hid HO1.out.drew
      replace HO2 := Lib.hid HO2.out.drew
      replace B1 := Lib.hid B1.out.drew
      generalize wt.drew = wc at Kx Kk Kr HO1 HO2 B1 hHeld ⊢
      refine wpAnyH_take (i := 0) (v := .agg #[.int .i64 k1, .int .i64 k2, .string k3, .int .i64 k4, .int .i64 k5]) rfl (by kernel_rfl) (by kernel_rfl) (by kernel_rfl) (fun _ _ _ h => h) (Or.inl ⟨by rfl, fun W hW => exec_load_row 24 _ rfl G rfl 24 #[.int .i64 k1, .int .i64 k2, .string k3, .int .i64 k4, .int .i64 k5] (0, 0) _ hW Tryd.underlying24 rfl KI.out⟩) (by assumption) ?_
      (try simp only [Act.put, List.getElem_toArray, List.getElem_cons_succ, List.getElem_cons_zero, List.setIfInBounds_toArray, List.set_cons_zero, List.set_cons_succ])
      refine wpAnyH_ready (rs := [1]) (by kernel_rfl) (by simp) (AllReadyH.cons rfl (fun K hK => ?_) AllReadyH.nil)
      rw [if_pos (by rfl)]
      refine wp_load_row 62 _ rfl (G + 1) rfl 62 (recC [.int .i64 nu] B [.int .i64 lo, .int .i64 hi, .slice a1 pl.length c1, .slice a2 rl.length c2, .int .i64 k2] S) _ Kx.out Tryd.underlying62 rfl LI.out ?_
      refine hK _ _ hHeld (fun hHeld1 => ?_)
      clear hK K
      (try simp only [Act.put, List.getElem_toArray, List.getElem_cons_succ, List.getElem_cons_zero, List.setIfInBounds_toArray, List.set_cons_zero, List.set_cons_succ])
      refine wpAnyH_ready (rs := [2]) (by kernel_rfl) (by simp) (AllReadyH.cons rfl (fun K hK => ?_) AllReadyH.nil)
      go_simp
      obtain ⟨a1x, c1x, e1x, -, m1x⟩ := OwnR.view encPu_len HO1.out
      obtain ⟨a2x, c2x, e2x, -, m2x⟩ := OwnR.view encDg_len HO2.out
      injection e1x with e1a _ e1c
      injection e2x with e2a _ e2c
      subst e1a e1c e2a e2c
      refine (HP.out _ _ _ _ _ ⟨m1x, m2x⟩).mono ?_
      clear m1x m2x
      rintro e w3 ⟨⟨a, c, rfl, hr⟩, hb⟩
      have HR := Lib.hid hr
      replace Kx := Lib.hid (Kx.out.below hb Kx.out.lt)
      replace Kk := Lib.hid (Kk.out.below hb Kk.out.lt)
      replace Kr := Lib.hid (Kr.out.below hb Kr.out.lt)
      replace HO1 := Lib.hid (HO1.out.below hb)
      replace HO2 := Lib.hid (HO2.out.below hb)
      replace B1 := Lib.hid (B1.out.trans (hb.mono B1.out.size))
      clear hb hr
      go_wp2_with fail
      refine hK _ _ Kk.out (fun hHeld2 => ?_)
      clear hK K
      (try simp only [Act.put, List.getElem_toArray, List.getElem_cons_succ, List.getElem_cons_zero, List.setIfInBounds_toArray, List.set_cons_zero, List.set_cons_succ])
      refine wpAnyH_ready (rs := [3]) (by kernel_rfl) (by simp) (AllReadyH.cons rfl (fun K hK => ?_) AllReadyH.nil)
      go_simp
      refine (HM.out a c _ HR.out (HLA.out.mono B1.out)).mono ?_
      rintro e w4 ⟨rfl, hb⟩
      replace Kx := Lib.hid (Kx.out.below hb Kx.out.lt)
      replace Kk := Lib.hid (Kk.out.below hb Kk.out.lt)
      replace Kr := Lib.hid (Kr.out.below hb Kr.out.lt)
      replace HO1 := Lib.hid (HO1.out.below hb)
      replace HO2 := Lib.hid (HO2.out.below hb)
      replace B1 := Lib.hid (B1.out.trans (hb.mono B1.out.size))
      clear hb
      go_wp2_with fail
      refine hK _ _ Kk.out (fun hHeld3 => ?_)
      clear hK K
      (try simp only [Act.put, List.getElem_toArray, List.getElem_cons_succ, List.getElem_cons_zero, List.setIfInBounds_toArray, List.set_cons_zero, List.set_cons_succ])
      refine wpAnyH_take (i := 4) (v := .pointer (some ⟨G + 1, 22, none⟩)) rfl (by kernel_rfl) (by kernel_rfl) (by kernel_rfl) (fun _ _ _ h => h) (Or.inl ⟨by rfl, fun W hW => by go_simp⟩) (by assumption) ?_
      (try simp only [Act.put, List.getElem_toArray, List.getElem_cons_succ, List.getElem_cons_zero, List.setIfInBounds_toArray, List.set_cons_zero, List.set_cons_succ])
      refine wpAnyH_ready (rs := [5]) (by kernel_rfl) (by simp) (AllReadyH.cons rfl (fun K hK => ?_) AllReadyH.nil)
      rw [if_pos (by rfl)]
      refine wp_store_mid 50 _ _ rfl (G + 1) 22 62 (recL [.int .i64 nu] B [.int .i64 lo, .int .i64 hi, .slice a1 pl.length c1, .slice a2 rl.length c2, .int .i64 k2] S) (Hs.bvs V) rfl rfl Kx.out VI.out VF.out VO.out rfl ?_
      rw [VS.out]
      have Kx5 := Lib.hid (show Blk (w4.setRow (G + 1) (recL [.int .i64 nu] B [.int .i64 lo, .int .i64 hi, .slice a1 pl.length c1, .slice a2 rl.length c2, .int .i64 k2] V).toArray) (G + 1) 62 (recC [.int .i64 nu] B [.int .i64 lo, .int .i64 hi, .slice a1 pl.length c1, .slice a2 rl.length c2, .int .i64 k2] V) from Kx.out.row_ _)
      have Kk5 := Lib.hid (show Blk (w4.setRow (G + 1) (recL [.int .i64 nu] B [.int .i64 lo, .int .i64 hi, .slice a1 pl.length c1, .slice a2 rl.length c2, .int .i64 k2] V).toArray) G 24 #[.int .i64 k1, .int .i64 k2, .string k3, .int .i64 k4, .int .i64 k5] from Kk.out.rowfar (by omega) _)
      have Kr5 := Lib.hid (show Blk (w4.setRow (G + 1) (recL [.int .i64 nu] B [.int .i64 lo, .int .i64 hi, .slice a1 pl.length c1, .slice a2 rl.length c2, .int .i64 k2] V).toArray) (G + 1 + 1) 62 #[.int .i64 0, .int .u8 0, .int .u8 0, .int .u8 0, .int .u8 0, .int .u8 0, .int .u8 0, .int .u8 0, .int .u8 0, .int .u8 0, .int .u8 0, .int .u8 0, .int .u8 0, .int .u8 0, .int .u8 0, .int .u8 0, .int .u8 0, .int .i64 0, .int .i64 0, .slice none 0 0, .slice none 0 0, .int .i64 0, .int .u8 0, .int .u8 0, .int .u8 0, .int .u8 0, .int .u8 0, .int .u8 0, .int .u8 0, .int .u8 0, .int .u8 0, .int .u8 0, .int .u8 0, .int .u8 0, .int .u8 0, .int .u8 0, .int .u8 0, .int .u8 0] from Kr.out.rowfar (by omega) _)
      have B5 := Lib.hid (show Below w.heap.size w (w4.setRow (G + 1) (recL [.int .i64 nu] B [.int .i64 lo, .int .i64 hi, .slice a1 pl.length c1, .slice a2 rl.length c2, .int .i64 k2] V).toArray) from below_setRow B1.out (show w.heap.size ≤ G + 1 by have := HG.out; omega) _)
      have O15 := Lib.hid (show Cp.OwnA (w4.setRow (G + 1) (recL [.int .i64 nu] B [.int .i64 lo, .int .i64 hi, .slice a1 pl.length c1, .slice a2 rl.length c2, .int .i64 k2] V).toArray) w0.heap.size (.slice a1 pl.length c1) pl from own_keep HO1.out fun k h1 h2 => setRow_other _ _ _ _ (by have := GZ.out; omega))
      have O25 := Lib.hid (show Cd.OwnA (w4.setRow (G + 1) (recL [.int .i64 nu] B [.int .i64 lo, .int .i64 hi, .slice a1 pl.length c1, .slice a2 rl.length c2, .int .i64 k2] V).toArray) w0.heap.size (.slice a2 rl.length c2) rl from own_keep HO2.out fun k h1 h2 => setRow_other _ _ _ _ (by have := GZ.out; omega))
      refine hK _ _ Kk5.out (fun hHeld4 => ?_)
      clear hK K
      (try simp only [Act.put, List.getElem_toArray, List.getElem_cons_succ, List.getElem_cons_zero, List.setIfInBounds_toArray, List.set_cons_zero, List.set_cons_succ])
      refine wpAnyH_done (by kernel_rfl) ?_ _
      generalize (w4.setRow (G + 1) (recL [.int .i64 nu] B [.int .i64 lo, .int .i64 hi, .slice a1 pl.length c1, .slice a2 rl.length c2, .int .i64 k2] V).toArray) = w5 at Kx5 Kr5 B5 O15 O25 ⊢
      have Hx := Lib.hid (show Hs.Blk w5 (G + 1) 62 (recC [.int .i64 nu] B [.int .i64 lo, .int .i64 hi, .slice a1 pl.length c1, .slice a2 rl.length c2, .int .i64 k2] V) from Kx5.out)
      have Hr := Lib.hid (show Hs.Blk w5 (G + 1 + 1) 62 #[.int .i64 0, .int .u8 0, .int .u8 0, .int .u8 0, .int .u8 0, .int .u8 0, .int .u8 0, .int .u8 0, .int .u8 0, .int .u8 0, .int .u8 0, .int .u8 0, .int .u8 0, .int .u8 0, .int .u8 0, .int .u8 0, .int .u8 0, .int .i64 0, .int .i64 0, .slice none 0 0, .slice none 0 0, .int .i64 0, .int .u8 0, .int .u8 0, .int .u8 0, .int .u8 0, .int .u8 0, .int .u8 0, .int .u8 0, .int .u8 0, .int .u8 0, .int .u8 0, .int .u8 0, .int .u8 0, .int .u8 0, .int .u8 0, .int .u8 0, .int .u8 0] from Kr5.out)
      go_wp2_with (first | (with_reducible refine Hs.wpList_load_all rfl 62 _ rfl (G + 1) rfl 62 (recC [.int .i64 nu] B [.int .i64 lo, .int .i64 hi, .slice a1 pl.length c1, .slice a2 rl.length c2, .int .i64 k2] V) _ Hx.out Tryd.underlying62 LJ.out ?_) | (with_reducible refine Hs.wpList_store_blk rfl 62 _ _ rfl (G + 1 + 1) 62 _ (recC [.int .i64 nu] B [.int .i64 lo, .int .i64 hi, .slice a1 pl.length c1, .slice a2 rl.length c2, .int .i64 k2] V) rfl rfl Hr.out LJ.out LS.out LO.out rfl ?_))
      have O16 := (show Cp.OwnA (w5.setRow (G + 1 + 1) (recC [.int .i64 nu] B [.int .i64 lo, .int .i64 hi, .slice a1 pl.length c1, .slice a2 rl.length c2, .int .i64 k2] V)) w0.heap.size (.slice a1 pl.length c1) pl from own_keep O15.out fun k h1 h2 => setRow_other _ _ _ _ (by have := GZ.out; omega))
      have O26 := (show Cd.OwnA (w5.setRow (G + 1 + 1) (recC [.int .i64 nu] B [.int .i64 lo, .int .i64 hi, .slice a1 pl.length c1, .slice a2 rl.length c2, .int .i64 k2] V)) w0.heap.size (.slice a2 rl.length c2) rl from own_keep O25.out fun k h1 h2 => setRow_other _ _ _ _ (by have := GZ.out; omega))
      obtain ⟨a1x, c1x, e1x, -, m1x⟩ := OwnR.view encPu_len O16
      obtain ⟨a2x, c2x, e2x, -, m2x⟩ := OwnR.view encDg_len O26
      injection e1x with e1a _ e1c
      injection e2x with e2a _ e2c
      subst e1a e1c e2a e2c
      refine bodyPost_ret (v := .agg (recC [.int .i64 nu] B [.int .i64 lo, .int .i64 hi, .slice a1 pl.length c1, .slice a2 rl.length c2, .int .i64 k2] V)) (results_cell_row rfl _ _ _ 62 _ (0, 0) _ rfl (Kr5.out.row_ _) Tryd.underlying62 rfl LJ.out) rfl ?_
      exact ⟨_, _, _, ⟨_, rfl⟩, ⟨m1x, m2x⟩, ⟨fun p hp => Nat.le_trans BW.out.size (OwnR.block O16 p hp), fun p hp => Nat.le_trans BW.out.size (OwnR.block O26 p hp)⟩, below_setRow B5.out (show w.heap.size ≤ G + 1 + 1 by have := HG.out; omega) _⟩
  · obtain ⟨xa0, xc0, xc1, xc2, xc3, xc4⟩ := epoch_cells HB.out Kx.out
    go_simp
    clear xa0 xc0 xc1 xc2 xc3 xc4
    refine hK _ _ trivial (fun hHeld => ?_)
    clear hK K
    (try simp only [Act.put, List.getElem_toArray, List.getElem_cons_succ, List.getElem_cons_zero, List.setIfInBounds_toArray, List.set_cons_zero, List.set_cons_succ])
    refine wpAnyH_ready (rs := [1]) (by kernel_rfl) (by simp) (AllReadyH.cons rfl (fun K hK => ?_) AllReadyH.nil)
    obtain ⟨xa0, xc0, xc1, xc2, xc3, xc4⟩ := epoch_cells HB.out Kx.out
    go_simp
    clear xa0 xc0 xc1 xc2 xc3 xc4
    refine hK _ _ trivial (fun hHeld => ?_)
    clear hK K
    (try simp only [Act.put, List.getElem_toArray, List.getElem_cons_succ, List.getElem_cons_zero, List.setIfInBounds_toArray, List.set_cons_zero, List.set_cons_succ])
    refine wpAnyH_ready (rs := [2]) (by kernel_rfl) (by simp) (AllReadyH.cons rfl (fun K hK => ?_) AllReadyH.nil)
    go_simp
    refine (CL1.out _ (HMM.out.mono (BW.out.trans (B0.out.mono BW.out.size))).1).mono ?_
    rintro e9 w2 ⟨v1, rfl, ho, hb⟩
    have HO1 := Lib.hid (OwnR.weak ho B0.out.size)
    clear ho
    replace Kx := Lib.hid (Kx.out.below hb Kx.out.lt)
    replace Kk := Lib.hid (Kk.out.below hb Kk.out.lt)
    replace Kr := Lib.hid (Kr.out.below hb Kr.out.lt)
    replace B0 := Lib.hid (B0.out.trans (hb.mono B0.out.size))
    obtain ⟨a1, c1, rfl, -, -⟩ := OwnR.view encPu_len HO1.out
    clear hb
    go_wp2_with fail
    refine hK _ _ trivial (fun hHeld => ?_)
    clear hK K
    (try simp only [Act.put, List.getElem_toArray, List.getElem_cons_succ, List.getElem_cons_zero, List.setIfInBounds_toArray, List.set_cons_zero, List.set_cons_succ])
    refine wpAnyH_take (i := 6) (v := .pointer (some ⟨G + 1, 19, none⟩)) rfl (by kernel_rfl) (by kernel_rfl) (by kernel_rfl) (fun _ _ _ h => h) (Or.inl ⟨by rfl, fun W hW => by go_simp⟩) (by assumption) ?_
    (try simp only [Act.put, List.getElem_toArray, List.getElem_cons_succ, List.getElem_cons_zero, List.setIfInBounds_toArray, List.set_cons_zero, List.set_cons_succ])
    refine wpAnyH_ready (rs := [5]) (by kernel_rfl) (by simp) (AllReadyH.cons rfl (fun K hK => ?_) AllReadyH.nil)
    go_simp
    refine (CL2.out _ (HMM.out.mono (BW.out.trans (B0.out.mono BW.out.size))).2).mono ?_
    rintro e9 wq ⟨v2, rfl, ho, hb⟩
    have HO2 := Lib.hid (OwnR.weak ho B0.out.size)
    clear ho
    replace Kx := Lib.hid (Kx.out.below hb Kx.out.lt)
    replace Kk := Lib.hid (Kk.out.below hb Kk.out.lt)
    replace Kr := Lib.hid (Kr.out.below hb Kr.out.lt)
    replace B0 := Lib.hid (B0.out.trans (hb.mono B0.out.size))
    replace HO1 := Lib.hid (HO1.out.below hb)
    obtain ⟨a2, c2, rfl, -, -⟩ := OwnR.view encDg_len HO2.out
    clear hb
    go_wp2_with fail
    refine hK _ _ trivial (fun hHeld => ?_)
    clear hK K
    (try simp only [Act.put, List.getElem_toArray, List.getElem_cons_succ, List.getElem_cons_zero, List.setIfInBounds_toArray, List.set_cons_zero, List.set_cons_succ])
    have B1 := Lib.hid (BW.out.trans (B0.out.mono BW.out.size))
    clear B0
    refine wpAnyH_ready (rs := [7]) (by kernel_rfl) (by simp) (AllReadyH.cons rfl (fun K hK => ?_) AllReadyH.nil)
    obtain ⟨xa0, xc0, xc1, xc2, xc3, xc4⟩ := epoch_cells HB.out Kx.out
    have fx := fun q => Kx.out.frozen q
    go_simp
    clear fx xa0 xc0 xc1 xc2 xc3 xc4
    replace Kx := Lib.hid (show Blk (wq.setCell ⟨G + 1, 19, none⟩ (.slice a1 pl.length c1)) (G + 1) 62 (recC [.int .i64 nu] B [.int .i64 lo, .int .i64 hi, .slice a1 pl.length c1, .slice ra rl.length rc, .int .i64 se] S) from by have h := Kx.out.set_ 19 (.slice a1 pl.length c1); rw [rec_set _ _ _ _ HB.out 19 2 _ rfl (by simp)] at h; exact h)
    replace Kk := Lib.hid (show Blk (wq.setCell ⟨G + 1, 19, none⟩ (.slice a1 pl.length c1)) G 24 #[.int .i64 k1, .int .i64 k2, .string k3, .int .i64 k4, .int .i64 k5] from Kk.out.far (p := ⟨G + 1, 19, none⟩) (by simp) (.slice a1 pl.length c1))
    replace Kr := Lib.hid (show Blk (wq.setCell ⟨G + 1, 19, none⟩ (.slice a1 pl.length c1)) (G + 1 + 1) 62 #[.int .i64 0, .int .u8 0, .int .u8 0, .int .u8 0, .int .u8 0, .int .u8 0, .int .u8 0, .int .u8 0, .int .u8 0, .int .u8 0, .int .u8 0, .int .u8 0, .int .u8 0, .int .u8 0, .int .u8 0, .int .u8 0, .int .u8 0, .int .i64 0, .int .i64 0, .slice none 0 0, .slice none 0 0, .int .i64 0, .int .u8 0, .int .u8 0, .int .u8 0, .int .u8 0, .int .u8 0, .int .u8 0, .int .u8 0, .int .u8 0, .int .u8 0, .int .u8 0, .int .u8 0, .int .u8 0, .int .u8 0, .int .u8 0, .int .u8 0, .int .u8 0] from Kr.out.far (p := ⟨G + 1, 19, none⟩) (by simp) (.slice a1 pl.length c1))
    replace HO1 := Lib.hid (HO1.out.far (p := ⟨G + 1, 19, none⟩) (show G + 1 < w0.heap.size by have := GZ.out; omega) (.slice a1 pl.length c1))
    replace HO2 := Lib.hid (HO2.out.far (p := ⟨G + 1, 19, none⟩) (show G + 1 < w0.heap.size by have := GZ.out; omega) (.slice a1 pl.length c1))
    replace B1 := Lib.hid (show Below w.heap.size w (wq.setCell ⟨G + 1, 19, none⟩ (.slice a1 pl.length c1)) from B1.out.setCell (p := ⟨G + 1, 19, none⟩) (show w.heap.size ≤ G + 1 by have := HG.out; omega) (.slice a1 pl.length c1))
    refine hK _ _ trivial (fun hHeld => ?_)
    clear hK K
    (try simp only [Act.put, List.getElem_toArray, List.getElem_cons_succ, List.getElem_cons_zero, List.setIfInBounds_toArray, List.set_cons_zero, List.set_cons_succ])
    generalize hw1 : (wq.setCell ⟨G + 1, 19, none⟩ (.slice a1 pl.length c1)) = wr at Kk Kx Kr HO1 HO2 B1 ⊢
    clear hw1
    refine wpAnyH_take (i := 8) (v := .pointer (some ⟨G + 1, 20, none⟩)) rfl (by kernel_rfl) (by kernel_rfl) (by kernel_rfl) (fun _ _ _ h => h) (Or.inl ⟨by rfl, fun W hW => by go_simp⟩) (by assumption) ?_
    (try simp only [Act.put, List.getElem_toArray, List.getElem_cons_succ, List.getElem_cons_zero, List.setIfInBounds_toArray, List.set_cons_zero, List.set_cons_succ])
    refine wpAnyH_ready (rs := [9]) (by kernel_rfl) (by simp) (AllReadyH.cons rfl (fun K hK => ?_) AllReadyH.nil)
    obtain ⟨xa0, xc0, xc1, xc2, xc3, xc4⟩ := epoch_cells HB.out Kx.out
    have fx := fun q => Kx.out.frozen q
    go_simp
    clear fx xa0 xc0 xc1 xc2 xc3 xc4
    replace Kx := Lib.hid (show Blk (wr.setCell ⟨G + 1, 20, none⟩ (.slice a2 rl.length c2)) (G + 1) 62 (recC [.int .i64 nu] B [.int .i64 lo, .int .i64 hi, .slice a1 pl.length c1, .slice a2 rl.length c2, .int .i64 se] S) from by have h := Kx.out.set_ 20 (.slice a2 rl.length c2); rw [rec_set _ _ _ _ HB.out 20 3 _ rfl (by simp)] at h; exact h)
    replace Kk := Lib.hid (show Blk (wr.setCell ⟨G + 1, 20, none⟩ (.slice a2 rl.length c2)) G 24 #[.int .i64 k1, .int .i64 k2, .string k3, .int .i64 k4, .int .i64 k5] from Kk.out.far (p := ⟨G + 1, 20, none⟩) (by simp) (.slice a2 rl.length c2))
    replace Kr := Lib.hid (show Blk (wr.setCell ⟨G + 1, 20, none⟩ (.slice a2 rl.length c2)) (G + 1 + 1) 62 #[.int .i64 0, .int .u8 0, .int .u8 0, .int .u8 0, .int .u8 0, .int .u8 0, .int .u8 0, .int .u8 0, .int .u8 0, .int .u8 0, .int .u8 0, .int .u8 0, .int .u8 0, .int .u8 0, .int .u8 0, .int .u8 0, .int .u8 0, .int .i64 0, .int .i64 0, .slice none 0 0, .slice none 0 0, .int .i64 0, .int .u8 0, .int .u8 0, .int .u8 0, .int .u8 0, .int .u8 0, .int .u8 0, .int .u8 0, .int .u8 0, .int .u8 0, .int .u8 0, .int .u8 0, .int .u8 0, .int .u8 0, .int .u8 0, .int .u8 0, .int .u8 0] from Kr.out.far (p := ⟨G + 1, 20, none⟩) (by simp) (.slice a2 rl.length c2))
    replace HO1 := Lib.hid (HO1.out.far (p := ⟨G + 1, 20, none⟩) (show G + 1 < w0.heap.size by have := GZ.out; omega) (.slice a2 rl.length c2))
    replace HO2 := Lib.hid (HO2.out.far (p := ⟨G + 1, 20, none⟩) (show G + 1 < w0.heap.size by have := GZ.out; omega) (.slice a2 rl.length c2))
    replace B1 := Lib.hid (show Below w.heap.size w (wr.setCell ⟨G + 1, 20, none⟩ (.slice a2 rl.length c2)) from B1.out.setCell (p := ⟨G + 1, 20, none⟩) (show w.heap.size ≤ G + 1 by have := HG.out; omega) (.slice a2 rl.length c2))
    refine hK _ _ trivial (fun hHeld => ?_)
    clear hK K
    (try simp only [Act.put, List.getElem_toArray, List.getElem_cons_succ, List.getElem_cons_zero, List.setIfInBounds_toArray, List.set_cons_zero, List.set_cons_succ])
    generalize hw1 : (wr.setCell ⟨G + 1, 20, none⟩ (.slice a2 rl.length c2)) = ws at Kk Kx Kr HO1 HO2 B1 ⊢
    clear hw1
    refine wpAnyH_done (by kernel_rfl) ?_ _
    have VF := Lib.hid (show 22 + (Hs.bvs V).size ≤ (recL [.int .i64 nu] B [.int .i64 lo, .int .i64 hi, .slice a1 pl.length c1, .slice a2 rl.length c2, .int .i64 k2] S).length by rw [Hs.bvs_size, VL.out]; unfold recL; simp [HB.out, HSl.out])
    have VS := Lib.hid (rec_splice [.int .i64 nu] B [.int .i64 lo, .int .i64 hi, .slice a1 pl.length c1, .slice a2 rl.length c2, .int .i64 k2] S V HB.out HSl.out VL.out 22 rfl)
    have LI := Lib.hid (show (Tryd.prog.info? 62).map (·.size) = some (recC [.int .i64 nu] B [.int .i64 lo, .int .i64 hi, .slice a1 pl.length c1, .slice a2 rl.length c2, .int .i64 k2] S).size by rw [rec_size _ _ _ _ HB.out HSl.out]; kernel_rfl)
    have LJ := Lib.hid (show (Tryd.prog.info? 62).map (·.size) = some (recC [.int .i64 nu] B [.int .i64 lo, .int .i64 hi, .slice a1 pl.length c1, .slice a2 rl.length c2, .int .i64 k2] V).size by rw [rec_size _ _ _ _ HB.out VL.out]; kernel_rfl)
    have LS := Lib.hid (show (#[.int .i64 0, .int .u8 0, .int .u8 0, .int .u8 0, .int .u8 0, .int .u8 0, .int .u8 0, .int .u8 0, .int .u8 0, .int .u8 0, .int .u8 0, .int .u8 0, .int .u8 0, .int .u8 0, .int .u8 0, .int .u8 0, .int .u8 0, .int .i64 0, .int .i64 0, .slice none 0 0, .slice none 0 0, .int .i64 0, .int .u8 0, .int .u8 0, .int .u8 0, .int .u8 0, .int .u8 0, .int .u8 0, .int .u8 0, .int .u8 0, .int .u8 0, .int .u8 0, .int .u8 0, .int .u8 0, .int .u8 0, .int .u8 0, .int .u8 0, .int .u8 0] : Array Value).size = (recC [.int .i64 nu] B [.int .i64 lo, .int .i64 hi, .slice a1 pl.length c1, .slice a2 rl.length c2, .int .i64 k2] V).size by rw [rec_size _ _ _ _ HB.out VL.out]; rfl)
    have LO := Lib.hid (rec_one [.int .i64 nu] B [.int .i64 lo, .int .i64 hi, .slice a1 pl.length c1, .slice a2 rl.length c2, .int .i64 k2] V rfl rfl)
    obtain ⟨t0, t1, t2, t3, t4⟩ := five Kk.out
    obtain ⟨xa0, xc0, xc1, xc2, xc3, xc4⟩ := epoch_cells HB.out Kx.out
    have fx := fun q => Kx.out.frozen q
    replace Kx := Lib.hid (show Blk (ws.setCell ⟨G + 1, 21, none⟩ (.int .i64 k2)) (G + 1) 62 (recC [.int .i64 nu] B [.int .i64 lo, .int .i64 hi, .slice a1 pl.length c1, .slice a2 rl.length c2, .int .i64 k2] S) from by have h := Kx.out.set_ 21 (.int .i64 k2); rw [rec_set _ _ _ _ HB.out 21 4 _ rfl (by simp)] at h; exact h)
    replace Kk := Lib.hid (show Blk (ws.setCell ⟨G + 1, 21, none⟩ (.int .i64 k2)) G 24 #[.int .i64 k1, .int .i64 k2, .string k3, .int .i64 k4, .int .i64 k5] from Kk.out.far (p := ⟨G + 1, 21, none⟩) (by simp) (.int .i64 k2))
    replace Kr := Lib.hid (show Blk (ws.setCell ⟨G + 1, 21, none⟩ (.int .i64 k2)) (G + 1 + 1) 62 #[.int .i64 0, .int .u8 0, .int .u8 0, .int .u8 0, .int .u8 0, .int .u8 0, .int .u8 0, .int .u8 0, .int .u8 0, .int .u8 0, .int .u8 0, .int .u8 0, .int .u8 0, .int .u8 0, .int .u8 0, .int .u8 0, .int .u8 0, .int .i64 0, .int .i64 0, .slice none 0 0, .slice none 0 0, .int .i64 0, .int .u8 0, .int .u8 0, .int .u8 0, .int .u8 0, .int .u8 0, .int .u8 0, .int .u8 0, .int .u8 0, .int .u8 0, .int .u8 0, .int .u8 0, .int .u8 0, .int .u8 0, .int .u8 0, .int .u8 0, .int .u8 0] from Kr.out.far (p := ⟨G + 1, 21, none⟩) (by simp) (.int .i64 k2))
    replace HO1 := Lib.hid (HO1.out.far (p := ⟨G + 1, 21, none⟩) (show G + 1 < w0.heap.size by have := GZ.out; omega) (.int .i64 k2))
    replace HO2 := Lib.hid (HO2.out.far (p := ⟨G + 1, 21, none⟩) (show G + 1 < w0.heap.size by have := GZ.out; omega) (.int .i64 k2))
    replace B1 := Lib.hid (show Below w.heap.size w (ws.setCell ⟨G + 1, 21, none⟩ (.int .i64 k2)) from B1.out.setCell (p := ⟨G + 1, 21, none⟩) (show w.heap.size ≤ G + 1 by have := HG.out; omega) (.int .i64 k2))
    go_upto_region 3 with (fail)
    generalize hw1 : (ws.setCell ⟨G + 1, 21, none⟩ (.int .i64 k2)) = wt at Kk Kx Kr HO1 HO2 B1 ⊢
    clear hw1 t0 t1 t2 t3 t4 fx xa0 xc0 xc1 xc2 xc3 xc4
    refine wp_region_held_drew (S := fun W => Blk W G 24 #[.int .i64 k1, .int .i64 k2, .string k3, .int .i64 k4, .int .i64 k5]) (by kernel_rfl) Kk.out.drew (fun hHeld => ?_)
    replace Kx := Lib.hid Kx.out.drew
    replace Kk := Lib.hid Kk.out.drew
    replace Kr := Lib.hid Kr.out.drew
    replace HO1 := Lib.hid HO1.out.drew
    replace HO2 := Lib.hid HO2.out.drew
    replace B1 := Lib.hid B1.out.drew
    generalize wt.drew = wc at Kx Kk Kr HO1 HO2 B1 hHeld ⊢
    refine wpAnyH_take (i := 0) (v := .agg #[.int .i64 k1, .int .i64 k2, .string k3, .int .i64 k4, .int .i64 k5]) rfl (by kernel_rfl) (by kernel_rfl) (by kernel_rfl) (fun _ _ _ h => h) (Or.inl ⟨by rfl, fun W hW => exec_load_row 24 _ rfl G rfl 24 #[.int .i64 k1, .int .i64 k2, .string k3, .int .i64 k4, .int .i64 k5] (0, 0) _ hW Tryd.underlying24 rfl KI.out⟩) (by assumption) ?_
    (try simp only [Act.put, List.getElem_toArray, List.getElem_cons_succ, List.getElem_cons_zero, List.setIfInBounds_toArray, List.set_cons_zero, List.set_cons_succ])
    refine wpAnyH_ready (rs := [1]) (by kernel_rfl) (by simp) (AllReadyH.cons rfl (fun K hK => ?_) AllReadyH.nil)
    rw [if_pos (by rfl)]
    refine wp_load_row 62 _ rfl (G + 1) rfl 62 (recC [.int .i64 nu] B [.int .i64 lo, .int .i64 hi, .slice a1 pl.length c1, .slice a2 rl.length c2, .int .i64 k2] S) _ Kx.out Tryd.underlying62 rfl LI.out ?_
    refine hK _ _ hHeld (fun hHeld1 => ?_)
    clear hK K
    (try simp only [Act.put, List.getElem_toArray, List.getElem_cons_succ, List.getElem_cons_zero, List.setIfInBounds_toArray, List.set_cons_zero, List.set_cons_succ])
    refine wpAnyH_ready (rs := [2]) (by kernel_rfl) (by simp) (AllReadyH.cons rfl (fun K hK => ?_) AllReadyH.nil)
    go_simp
    obtain ⟨a1x, c1x, e1x, -, m1x⟩ := OwnR.view encPu_len HO1.out
    obtain ⟨a2x, c2x, e2x, -, m2x⟩ := OwnR.view encDg_len HO2.out
    injection e1x with e1a _ e1c
    injection e2x with e2a _ e2c
    subst e1a e1c e2a e2c
    refine (HP.out _ _ _ _ _ ⟨m1x, m2x⟩).mono ?_
    clear m1x m2x
    rintro e w3 ⟨⟨a, c, rfl, hr⟩, hb⟩
    have HR := Lib.hid hr
    replace Kx := Lib.hid (Kx.out.below hb Kx.out.lt)
    replace Kk := Lib.hid (Kk.out.below hb Kk.out.lt)
    replace Kr := Lib.hid (Kr.out.below hb Kr.out.lt)
    replace HO1 := Lib.hid (HO1.out.below hb)
    replace HO2 := Lib.hid (HO2.out.below hb)
    replace B1 := Lib.hid (B1.out.trans (hb.mono B1.out.size))
    clear hb hr
    go_wp2_with fail
    refine hK _ _ Kk.out (fun hHeld2 => ?_)
    clear hK K
    (try simp only [Act.put, List.getElem_toArray, List.getElem_cons_succ, List.getElem_cons_zero, List.setIfInBounds_toArray, List.set_cons_zero, List.set_cons_succ])
    refine wpAnyH_ready (rs := [3]) (by kernel_rfl) (by simp) (AllReadyH.cons rfl (fun K hK => ?_) AllReadyH.nil)
    go_simp
    refine (HM.out a c _ HR.out (HLA.out.mono B1.out)).mono ?_
    rintro e w4 ⟨rfl, hb⟩
    replace Kx := Lib.hid (Kx.out.below hb Kx.out.lt)
    replace Kk := Lib.hid (Kk.out.below hb Kk.out.lt)
    replace Kr := Lib.hid (Kr.out.below hb Kr.out.lt)
    replace HO1 := Lib.hid (HO1.out.below hb)
    replace HO2 := Lib.hid (HO2.out.below hb)
    replace B1 := Lib.hid (B1.out.trans (hb.mono B1.out.size))
    clear hb
    go_wp2_with fail
    refine hK _ _ Kk.out (fun hHeld3 => ?_)
    clear hK K
    (try simp only [Act.put, List.getElem_toArray, List.getElem_cons_succ, List.getElem_cons_zero, List.setIfInBounds_toArray, List.set_cons_zero, List.set_cons_succ])
    refine wpAnyH_take (i := 4) (v := .pointer (some ⟨G + 1, 22, none⟩)) rfl (by kernel_rfl) (by kernel_rfl) (by kernel_rfl) (fun _ _ _ h => h) (Or.inl ⟨by rfl, fun W hW => by go_simp⟩) (by assumption) ?_
    (try simp only [Act.put, List.getElem_toArray, List.getElem_cons_succ, List.getElem_cons_zero, List.setIfInBounds_toArray, List.set_cons_zero, List.set_cons_succ])
    refine wpAnyH_ready (rs := [5]) (by kernel_rfl) (by simp) (AllReadyH.cons rfl (fun K hK => ?_) AllReadyH.nil)
    rw [if_pos (by rfl)]
    refine wp_store_mid 50 _ _ rfl (G + 1) 22 62 (recL [.int .i64 nu] B [.int .i64 lo, .int .i64 hi, .slice a1 pl.length c1, .slice a2 rl.length c2, .int .i64 k2] S) (Hs.bvs V) rfl rfl Kx.out VI.out VF.out VO.out rfl ?_
    rw [VS.out]
    have Kx5 := Lib.hid (show Blk (w4.setRow (G + 1) (recL [.int .i64 nu] B [.int .i64 lo, .int .i64 hi, .slice a1 pl.length c1, .slice a2 rl.length c2, .int .i64 k2] V).toArray) (G + 1) 62 (recC [.int .i64 nu] B [.int .i64 lo, .int .i64 hi, .slice a1 pl.length c1, .slice a2 rl.length c2, .int .i64 k2] V) from Kx.out.row_ _)
    have Kk5 := Lib.hid (show Blk (w4.setRow (G + 1) (recL [.int .i64 nu] B [.int .i64 lo, .int .i64 hi, .slice a1 pl.length c1, .slice a2 rl.length c2, .int .i64 k2] V).toArray) G 24 #[.int .i64 k1, .int .i64 k2, .string k3, .int .i64 k4, .int .i64 k5] from Kk.out.rowfar (by omega) _)
    have Kr5 := Lib.hid (show Blk (w4.setRow (G + 1) (recL [.int .i64 nu] B [.int .i64 lo, .int .i64 hi, .slice a1 pl.length c1, .slice a2 rl.length c2, .int .i64 k2] V).toArray) (G + 1 + 1) 62 #[.int .i64 0, .int .u8 0, .int .u8 0, .int .u8 0, .int .u8 0, .int .u8 0, .int .u8 0, .int .u8 0, .int .u8 0, .int .u8 0, .int .u8 0, .int .u8 0, .int .u8 0, .int .u8 0, .int .u8 0, .int .u8 0, .int .u8 0, .int .i64 0, .int .i64 0, .slice none 0 0, .slice none 0 0, .int .i64 0, .int .u8 0, .int .u8 0, .int .u8 0, .int .u8 0, .int .u8 0, .int .u8 0, .int .u8 0, .int .u8 0, .int .u8 0, .int .u8 0, .int .u8 0, .int .u8 0, .int .u8 0, .int .u8 0, .int .u8 0, .int .u8 0] from Kr.out.rowfar (by omega) _)
    have B5 := Lib.hid (show Below w.heap.size w (w4.setRow (G + 1) (recL [.int .i64 nu] B [.int .i64 lo, .int .i64 hi, .slice a1 pl.length c1, .slice a2 rl.length c2, .int .i64 k2] V).toArray) from below_setRow B1.out (show w.heap.size ≤ G + 1 by have := HG.out; omega) _)
    have O15 := Lib.hid (show Cp.OwnA (w4.setRow (G + 1) (recL [.int .i64 nu] B [.int .i64 lo, .int .i64 hi, .slice a1 pl.length c1, .slice a2 rl.length c2, .int .i64 k2] V).toArray) w0.heap.size (.slice a1 pl.length c1) pl from own_keep HO1.out fun k h1 h2 => setRow_other _ _ _ _ (by have := GZ.out; omega))
    have O25 := Lib.hid (show Cd.OwnA (w4.setRow (G + 1) (recL [.int .i64 nu] B [.int .i64 lo, .int .i64 hi, .slice a1 pl.length c1, .slice a2 rl.length c2, .int .i64 k2] V).toArray) w0.heap.size (.slice a2 rl.length c2) rl from own_keep HO2.out fun k h1 h2 => setRow_other _ _ _ _ (by have := GZ.out; omega))
    refine hK _ _ Kk5.out (fun hHeld4 => ?_)
    clear hK K
    (try simp only [Act.put, List.getElem_toArray, List.getElem_cons_succ, List.getElem_cons_zero, List.setIfInBounds_toArray, List.set_cons_zero, List.set_cons_succ])
    refine wpAnyH_done (by kernel_rfl) ?_ _
    generalize (w4.setRow (G + 1) (recL [.int .i64 nu] B [.int .i64 lo, .int .i64 hi, .slice a1 pl.length c1, .slice a2 rl.length c2, .int .i64 k2] V).toArray) = w5 at Kx5 Kr5 B5 O15 O25 ⊢
    have Hx := Lib.hid (show Hs.Blk w5 (G + 1) 62 (recC [.int .i64 nu] B [.int .i64 lo, .int .i64 hi, .slice a1 pl.length c1, .slice a2 rl.length c2, .int .i64 k2] V) from Kx5.out)
    have Hr := Lib.hid (show Hs.Blk w5 (G + 1 + 1) 62 #[.int .i64 0, .int .u8 0, .int .u8 0, .int .u8 0, .int .u8 0, .int .u8 0, .int .u8 0, .int .u8 0, .int .u8 0, .int .u8 0, .int .u8 0, .int .u8 0, .int .u8 0, .int .u8 0, .int .u8 0, .int .u8 0, .int .u8 0, .int .i64 0, .int .i64 0, .slice none 0 0, .slice none 0 0, .int .i64 0, .int .u8 0, .int .u8 0, .int .u8 0, .int .u8 0, .int .u8 0, .int .u8 0, .int .u8 0, .int .u8 0, .int .u8 0, .int .u8 0, .int .u8 0, .int .u8 0, .int .u8 0, .int .u8 0, .int .u8 0, .int .u8 0] from Kr5.out)
    go_wp2_with (first | (with_reducible refine Hs.wpList_load_all rfl 62 _ rfl (G + 1) rfl 62 (recC [.int .i64 nu] B [.int .i64 lo, .int .i64 hi, .slice a1 pl.length c1, .slice a2 rl.length c2, .int .i64 k2] V) _ Hx.out Tryd.underlying62 LJ.out ?_) | (with_reducible refine Hs.wpList_store_blk rfl 62 _ _ rfl (G + 1 + 1) 62 _ (recC [.int .i64 nu] B [.int .i64 lo, .int .i64 hi, .slice a1 pl.length c1, .slice a2 rl.length c2, .int .i64 k2] V) rfl rfl Hr.out LJ.out LS.out LO.out rfl ?_))
    have O16 := (show Cp.OwnA (w5.setRow (G + 1 + 1) (recC [.int .i64 nu] B [.int .i64 lo, .int .i64 hi, .slice a1 pl.length c1, .slice a2 rl.length c2, .int .i64 k2] V)) w0.heap.size (.slice a1 pl.length c1) pl from own_keep O15.out fun k h1 h2 => setRow_other _ _ _ _ (by have := GZ.out; omega))
    have O26 := (show Cd.OwnA (w5.setRow (G + 1 + 1) (recC [.int .i64 nu] B [.int .i64 lo, .int .i64 hi, .slice a1 pl.length c1, .slice a2 rl.length c2, .int .i64 k2] V)) w0.heap.size (.slice a2 rl.length c2) rl from own_keep O25.out fun k h1 h2 => setRow_other _ _ _ _ (by have := GZ.out; omega))
    obtain ⟨a1x, c1x, e1x, -, m1x⟩ := OwnR.view encPu_len O16
    obtain ⟨a2x, c2x, e2x, -, m2x⟩ := OwnR.view encDg_len O26
    injection e1x with e1a _ e1c
    injection e2x with e2a _ e2c
    subst e1a e1c e2a e2c
    refine bodyPost_ret (v := .agg (recC [.int .i64 nu] B [.int .i64 lo, .int .i64 hi, .slice a1 pl.length c1, .slice a2 rl.length c2, .int .i64 k2] V)) (results_cell_row rfl _ _ _ 62 _ (0, 0) _ rfl (Kr5.out.row_ _) Tryd.underlying62 rfl LJ.out) rfl ?_
    exact ⟨_, _, _, ⟨_, rfl⟩, ⟨m1x, m2x⟩, ⟨fun p hp => Nat.le_trans BW.out.size (OwnR.block O16 p hp), fun p hp => Nat.le_trans BW.out.size (OwnR.block O26 p hp)⟩, below_setRow B5.out (show w.heap.size ≤ G + 1 + 1 by have := HG.out; omega) _⟩
theorem sealEpoch_any (k : Rw) (nu lo hi se : Int) (B : List Nat) (S : List Nat) (pa : Option Addr) (pc : Nat) (pl : List Pu) (ra : Option Addr) (rc : Nat) (rl : List Dg) (w : World) (hB : B.length = 16) (hS : S.length = 16) (hb : ∀ x ∈ B, x < 256) (hnu : i64Ok nu) (hlo : i64Ok lo) (hhi : i64Ok hi) (hse : i64Ok se) (hT : EpOk pl rl) (hk : i64Ok k.1 ∧ i64Ok k.2.1) (hs : k.2.2.1.size ≤ 400) (hm : EpM w pa pl ra rl) (hla : Hs.LaidC w) :
    Calls Tryd.prog 41 #[.agg (encR k).toArray, .agg (recC [.int .i64 nu] B [.int .i64 lo, .int .i64 hi, .slice pa pl.length pc, .slice ra rl.length rc, .int .i64 se] S)] w fun e w' => ∃ a1 c1 a2 c2, e = .returned (.agg (recC [.int .i64 nu] B [.int .i64 lo, .int .i64 hi, .slice a1 pl.length c1, .slice a2 rl.length c2, .int .i64 k.2.1] (mkS 42 k.2.2.1 (epochP nu lo hi k.2.1 B pl rl)))) ∧ EpM w' a1 pl a2 rl ∧ Below w.heap.size w w' :=
  (sealEpoch_fr k nu lo hi se B S pa pc pl ra rc rl w hB hS hb hnu hlo hhi hse hT hk hs hm hla).mono fun e w' ⟨a1, c1, a2, c2, q1, q2, _, q4⟩ => ⟨a1, c1, a2, c2, q1, q2, q4⟩
end Go.Proofs.YtcdcnklfcmoiiaaDoor
