import Derived.Test.YteblnmhaohbkkaaDoorRLeS
import Derived.Test.YteblnmhaohbkkaaDoorRLeO
import Derived.Deep.CutRange
namespace Go.Proofs.YteblnmhaohbkkaaDoor
set_option linter.unusedVariables false
set_option linter.unusedSimpArgs false
set_option linter.unusedSectionVars false
namespace Le
open Go.RowKit Go.Sort
open List renaming getElem_toArray → nA, getElem_cons_succ → nB, getElem_cons_zero → nC, setIfInBounds_toArray → nD, set_cons_zero → nE, set_cons_succ → nF
theorem big_per (x y : Int) : BigR 28 #[.int .i64 x, .int .i64 y] := ⟨by kernel_rfl, by rw [Array.all_eq_true_iff_forall_mem]; intro v hv; simp only [List.mem_toArray, List.mem_cons, List.not_mem_nil, or_false] at hv; rcases hv with rfl | rfl <;> rfl⟩
theorem ints_one (W : World) {t : TypeId} : IntsA (W.alloc (.cells #[.int .i64 1] t)) (some ⟨W.heap.size, 0, none⟩) [1] := fun k hk => by
  obtain rfl : k = 0 := by simpa using hk
  exact ⟨W.heap.size, 0, rfl, (Blk.new' W _ _ _ rfl rfl).cell 0⟩
set_option maxRecDepth 100000 in
set_option maxHeartbeats 8000000 in
theorem sanity_any (w : World) (hla : Hs.LaidC w) : Calls Tryd.prog 7 #[] w fun e w' => e = .returned (.bool true) ∧ Below w.heap.size w w' := by
  have HLA := Lib.hid hla
  clear hla
  have G1 := Lib.hid (fun (X : World) (h : Hs.LaidC X) => sn_g1 X h)
  have G2 := Lib.hid (fun (a : Option Addr) (c : Nat) (X : World) (h : GrA X a s1) (k : Hs.LaidC X) => sn_g2 a c X h k)
  have TK := Lib.hid (fun (a : Option Addr) (c : Nat) (X : World) (h : RwA X a [k0]) (k : Hs.LaidC X) => sn_tk a c X h k)
  have SV1 := Lib.hid (fun (X : World) => sn_s1 X)
  have SV2 := Lib.hid (fun (X : World) => sn_s2 X)
  have BNa := Lib.hid (show BigR 38 (leaseC 1 0 1100 1 (sealD 1 kS 1 0 1100)) from big_lease (sealD_len _ _ _ _ _))
  have BNb := Lib.hid (show BigR 38 (leaseC 2 0 600 1 (sealD 1 kS 2 0 600)) from big_lease (sealD_len _ _ _ _ _))
  have BNs := Lib.hid (show BigR 67 (heldC 2 0 2 0 600 1 (sealD 1 kS 2 0 600)) from big_held (sealD_len _ _ _ _ _))
  have LCa := Lib.hid (fun (X : World) (g : Nat) (h : Blk X g 38 (leaseC 1 0 1100 1 (sealD 1 kS 1 0 1100))) => lease_cells h)
  have LCb := Lib.hid (fun (X : World) (g : Nat) (h : Blk X g 38 (leaseC 2 0 600 1 (sealD 1 kS 2 0 600))) => lease_cells h)
  obtain ⟨LA, hLA⟩ : ∃ C, leaseC 1 0 1100 1 (sealD 1 kS 1 0 1100) = C := ⟨_, rfl⟩
  obtain ⟨LB, hLB⟩ : ∃ C, leaseC 2 0 600 1 (sealD 1 kS 2 0 600) = C := ⟨_, rfl⟩
  obtain ⟨HC, hHC⟩ : ∃ C, heldC 2 0 2 0 600 1 (sealD 1 kS 2 0 600) = C := ⟨_, rfl⟩
  obtain ⟨HZ, hHZ⟩ : ∃ C, heldC 2 0 0 0 0 0 (List.replicate 16 0) = C := ⟨_, rfl⟩
  have EZ := Lib.hid hHZ
  simp only [hLA] at G1 BNa LCa
  simp only [hLB] at G2 TK BNb LCb
  simp only [hHC] at TK SV1 SV2 BNs
  simp only [hHZ] at TK
  clear hLA hLB hHC hHZ
  go_enter Tryd.func7, Tryd.ntmps7
  have B := Lib.hid (Below.refl w.heap.size w)
  go_wp2_with fail
  refine (sn_new _).mono ?_
  rintro e w1 ⟨rfl, hb⟩
  replace B := Lib.hid (B.out.trans (hb.mono B.out.size))
  clear hb
  obtain ⟨gg, hgg⟩ : ∃ G, w1.heap.size = G := ⟨_, rfl⟩
  have Kg := Lib.hid (show Blk (w1.alloc (.cells #[.int .i64 0, .int .i64 1000, .slice none 0 0] 24)) gg 24 #[.int .i64 0, .int .i64 1000, .slice none 0 0] from Blk.new' w1 _ _ _ hgg rfl)
  have Lg := Lib.hid (show w.heap.size ≤ gg from by rw [← hgg]; exact B.out.size)
  replace B := Lib.hid (B.out.alloc B.out.size (.cells #[.int .i64 0, .int .i64 1000, .slice none 0 0] 24))
  go_upto_region 2 with (fail)
  try rw [hgg]
  generalize hw : w1.alloc (.cells #[.int .i64 0, .int .i64 1000, .slice none 0 0] 24) = w2 at Kg  B ⊢
  clear hw hgg
  obtain ⟨bgc0, bgc1, bgc2⟩ := three Kg.out
  obtain ⟨gp, hgp⟩ : ∃ G, w2.heap.size = G := ⟨_, rfl⟩
  have Kp := Lib.hid (show Blk (w2.alloc (.cells #[.int .i64 100, .int .i64 110] 28)) gp 28 #[.int .i64 100, .int .i64 110] from Blk.new' w2 _ _ _ hgp rfl)
  have Ngp := Lib.hid (show gg < gp from by rw [← hgp]; exact Kg.out.lt)
  replace Kg := Lib.hid (Kg.out.alloc (.cells #[.int .i64 100, .int .i64 110] 28))
  have Lp := Lib.hid (show w.heap.size ≤ gp from by rw [← hgp]; exact B.out.size)
  replace B := Lib.hid (B.out.alloc B.out.size (.cells #[.int .i64 100, .int .i64 110] 28))
  go_upto_region 3 with (fail)
  try rw [hgp]
  generalize hw : w2.alloc (.cells #[.int .i64 100, .int .i64 110] 28) = w3 at Kg Kp  B ⊢
  clear bgc0 bgc1 bgc2
  clear hw hgp
  obtain ⟨bgc0, bgc1, bgc2⟩ := three Kg.out
  obtain ⟨bpc0, bpc1⟩ := twob Kp.out
  clear bgc0 bgc1 bgc2 bpc0 bpc1
  go_cut [4, 5] from 27 to 34 (fun u4 u5 wx => u5 = .int .i64 0 ∧ ∃ ga a1 c1, u4 = .pointer (some ⟨ga, 0, none⟩) ∧ Hid (Blk wx (gg) 24 #[.int .i64 0, .int .i64 1000, .slice a1 s1.length c1]) ∧ Hid (Blk wx (gp) 28 #[.int .i64 100, .int .i64 110]) ∧ Hid (Blk wx ga 38 LA) ∧ Hid (GrA wx a1 s1) ∧ Hid (w.heap.size ≤ ga) ∧ Hid (gg < ga ∧ gp < ga) ∧ Hid (Below w.heap.size w wx))
  case first =>
    refine Ph.start (S := Till 3 (fun W => Blk W (gg) 24 #[.int .i64 0, .int .i64 1000, .slice none 0 0]) (fun W => Blk W (gp) 28 #[.int .i64 100, .int .i64 110])) (by kernel_rfl) (Till.low Kg.out.drew Kp.out.drew) (fun _ => ?_)
    replace Kg := Lib.hid Kg.out.drew
    replace Kp := Lib.hid Kp.out.drew
    replace B := Lib.hid B.out.drew
    generalize w3.drew = va1 at Kg Kp B ⊢
    refine Ph.takeT (i := 0) (v := .agg #[.int .i64 0, .int .i64 1000, .slice none 0 0]) rfl (by kernel_rfl) (by kernel_rfl) (by kernel_rfl) (by decide) (by kernel_rfl) (by rfl) (fun _ _ _ h => h) (Or.inl ⟨by rfl, fun W hW => exec_load_row 24 _ rfl (gg) rfl 24 #[.int .i64 0, .int .i64 1000, .slice none 0 0] (0, 0) _ (hW.1) Tryd.underlying24 rfl (big_grants _ _ _ _ _).info⟩) (Till.low Kg.out Kp.out) ?_
    (try simp only [Act.put, nA, nB, nC, nD, nE, nF])
    refine Ph.takeU (i := 2) (v := .agg #[.int .i64 100, .int .i64 110]) rfl (Or.inl ⟨by rfl, fun W hW => exec_load_row 28 _ rfl (gp) rfl 28 #[.int .i64 100, .int .i64 110] (0, 0) _ (hW) Tryd.underlying28 rfl (big_per _ _).info⟩) (Till.low Kg.out Kp.out) ?_
    (try simp only [Act.put, nA, nB, nC, nD, nE, nF])
    refine Ph.ready (rs := [1, 8]) (by kernel_rfl) (by simp) (All.cons rfl (fun K hK => ?_) (All.cons rfl (fun K hK => ?_) (All.nil)))
    · go_simp
      refine (sn_key _).mono ?_
      rintro e va2 ⟨rfl, hb⟩
      replace Kg := Lib.hid (Kg.out.below hb Kg.out.lt)
      replace Kp := Lib.hid (Kp.out.below hb Kp.out.lt)
      replace B := Lib.hid (B.out.trans (hb.mono B.out.size))
      clear hb
      go_wp2_with fail
      refine hK _ _ (Till.low Kg.out Kp.out) (fun _ => ?_)
      clear hK K
      (try simp only [Act.put, nA, nB, nC, nD, nE, nF])
      refine Ph.ready (rs := [3, 8]) (by kernel_rfl) (by simp) (All.cons rfl (fun K hK => ?_) (All.cons rfl (fun K hK => ?_) (All.nil)))
      · go_simp
        refine (G1.out _ (HLA.out.below B.out)).mono ?_
        rintro e va3 ⟨⟨a1, c1, rfl, hr, hf⟩, hb⟩
        have Qg := Lib.hid Kg.out.lt
        have Qp := Lib.hid Kp.out.lt
        replace Kg := Lib.hid (Kg.out.below hb Kg.out.lt)
        replace Kp := Lib.hid (Kp.out.below hb Kp.out.lt)
        replace B := Lib.hid (B.out.trans (hb.mono B.out.size))
        have R1 := Lib.hid hr
        have E1g := Lib.hid (show ∀ p, a1 = some p → p.block ≠ gg from fun p hp => by have h1 := hf p hp; have h2 := Qg.out; omega)
        have E1p := Lib.hid (show ∀ p, a1 = some p → p.block ≠ gp from fun p hp => by have h1 := hf p hp; have h2 := Qp.out; omega)
        skip
        clear hr hf Qg Qp
        clear hb
        go_wp2_with fail
        refine hK _ _ (Till.high (by rfl) Kp.out) (fun _ => ?_)
        clear hK K
        refine Ph.takeU (i := 4) (v := .tuple #[.agg #[.int .i64 0, .int .i64 1000, .slice a1 s1.length c1], .agg LA, .int .i64 0]) rfl (Or.inl ⟨by rfl, fun W hW => by go_simp⟩) (Till.high (by rfl) Kp.out) ?_
        (try simp only [Act.put, nA, nB, nC, nD, nE, nF])
        refine Ph.takeU (i := 5) (v := .agg #[.int .i64 0, .int .i64 1000, .slice a1 s1.length c1]) rfl (Or.inl ⟨by rfl, fun W hW => by go_simp⟩) (Till.high (by rfl) Kp.out) ?_
        (try simp only [Act.put, nA, nB, nC, nD, nE, nF])
        refine Ph.takeU (i := 6) (v := .agg LA) rfl (Or.inl ⟨by rfl, fun W hW => by go_simp⟩) (Till.high (by rfl) Kp.out) ?_
        (try simp only [Act.put, nA, nB, nC, nD, nE, nF])
        refine Ph.takeU (i := 7) (v := .int .i64 0) rfl (Or.inl ⟨by rfl, fun W hW => by go_simp⟩) (Till.high (by rfl) Kp.out) ?_
        (try simp only [Act.put, nA, nB, nC, nD, nE, nF])
        (try simp only [Act.put, nA, nB, nC, nD, nE, nF])
        refine Ph.ready (rs := [8]) (by kernel_rfl) (by simp) (All.cons rfl (fun K hK => ?_) (All.nil))
        go_simp
        obtain ⟨ga, hga⟩ : ∃ G, va3.heap.size = G := ⟨_, rfl⟩
        have La := Lib.hid (show w.heap.size ≤ ga from by rw [← hga]; exact B.out.size)
        have Nga := Lib.hid (show gg < ga from by rw [← hga]; exact Kg.out.lt)
        have Npa := Lib.hid (show gp < ga from by rw [← hga]; exact Kp.out.lt)
        have E1a := Lib.hid (show ∀ p, a1 = some p → p.block ≠ ga from fun p hp => by have h1 := rows_lt R1.out (by decide) p hp; omega)
        replace R1 := Lib.hid (R1.out.mono ((Below.refl _ va3).alloc (Nat.le_refl _) (.cells #[.int .i64 0, .int .i64 0, .int .i64 0, .int .i64 0, .int .u8 0, .int .u8 0, .int .u8 0, .int .u8 0, .int .u8 0, .int .u8 0, .int .u8 0, .int .u8 0, .int .u8 0, .int .u8 0, .int .u8 0, .int .u8 0, .int .u8 0, .int .u8 0, .int .u8 0, .int .u8 0] 38)))
        obtain ⟨va4, hw2, Ka, Kg, Kp, B⟩ : ∃ X, va3.alloc (.cells #[.int .i64 0, .int .i64 0, .int .i64 0, .int .i64 0, .int .u8 0, .int .u8 0, .int .u8 0, .int .u8 0, .int .u8 0, .int .u8 0, .int .u8 0, .int .u8 0, .int .u8 0, .int .u8 0, .int .u8 0, .int .u8 0, .int .u8 0, .int .u8 0, .int .u8 0, .int .u8 0] 38) = X ∧ Hid (Blk X ga 38 #[.int .i64 0, .int .i64 0, .int .i64 0, .int .i64 0, .int .u8 0, .int .u8 0, .int .u8 0, .int .u8 0, .int .u8 0, .int .u8 0, .int .u8 0, .int .u8 0, .int .u8 0, .int .u8 0, .int .u8 0, .int .u8 0, .int .u8 0, .int .u8 0, .int .u8 0, .int .u8 0]) ∧ Hid (Blk X (gg) 24 #[.int .i64 0, .int .i64 1000, .slice none 0 0]) ∧ Hid (Blk X (gp) 28 #[.int .i64 100, .int .i64 110]) ∧ Hid (Below w.heap.size w X) := ⟨_, rfl, Lib.hid (Blk.new' _ _ _ _ hga rfl), Lib.hid (Kg.out.alloc _), Lib.hid (Kp.out.alloc _), Lib.hid (B.out.alloc B.out.size _)⟩
        try rw [hga]
        rw [hw2]
        rw [hw2] at R1
        clear hw2 hga
        refine hK _ _ (Till.high (by rfl) Kp.out) (fun _ => ?_)
        clear hK K
        (try simp only [Act.put, nA, nB, nC, nD, nE, nF])
        refine Ph.ready (rs := [9]) (by kernel_rfl) (by simp) (All.cons rfl (fun K hK => ?_) (All.nil))
        rw [if_pos (by rfl)]
        refine wp_store_row 24 _ _ rfl (gg) 24 #[.int .i64 0, .int .i64 1000, .slice none 0 0] #[.int .i64 0, .int .i64 1000, .slice a1 s1.length c1] rfl rfl (Blk.hs Kg.out) (big_grants _ _ _ _ _).info ((big_grants _ _ _ _ _).same (big_grants _ _ _ _ _)) (big_grants _ _ _ _ _).one rfl ?_
        replace Kg := Lib.hid (show Blk (va4.setRow (gg) #[.int .i64 0, .int .i64 1000, .slice a1 s1.length c1]) (gg) 24 #[.int .i64 0, .int .i64 1000, .slice a1 s1.length c1] from Kg.out.row_ _)
        replace Kp := Lib.hid (show Blk (va4.setRow (gg) #[.int .i64 0, .int .i64 1000, .slice a1 s1.length c1]) (gp) _ _ from Kp.out.rowfar (by have := Ngp.out; omega) _)
        replace Ka := Lib.hid (show Blk (va4.setRow (gg) #[.int .i64 0, .int .i64 1000, .slice a1 s1.length c1]) (ga) _ _ from Ka.out.rowfar (by have := Nga.out; omega) _)
        replace R1 := Lib.hid (RowsA.rowfar R1.out E1g.out #[.int .i64 0, .int .i64 1000, .slice a1 s1.length c1])
        replace B := Lib.hid (show Below w.heap.size w (va4.setRow (gg) #[.int .i64 0, .int .i64 1000, .slice a1 s1.length c1]) from below_setRow B.out Lg.out _)
        generalize hw2 : (va4.setRow (gg) #[.int .i64 0, .int .i64 1000, .slice a1 s1.length c1]) = va5 at Kg Kp Ka R1 B ⊢
        clear hw2
        refine hK _ _ (Till.high (by rfl) Kp.out) (fun _ => ?_)
        clear hK K
        (try simp only [Act.put, nA, nB, nC, nD, nE, nF])
        refine Ph.ready (rs := [10]) (by kernel_rfl) (by simp) (All.cons rfl (fun K hK => ?_) (All.nil))
        rw [if_pos (by rfl)]
        refine wp_store_row 38 _ _ rfl (ga) 38 #[.int .i64 0, .int .i64 0, .int .i64 0, .int .i64 0, .int .u8 0, .int .u8 0, .int .u8 0, .int .u8 0, .int .u8 0, .int .u8 0, .int .u8 0, .int .u8 0, .int .u8 0, .int .u8 0, .int .u8 0, .int .u8 0, .int .u8 0, .int .u8 0, .int .u8 0, .int .u8 0] LA rfl rfl (Blk.hs Ka.out) BNa.out.info (big_leaseZ.same BNa.out) BNa.out.one rfl ?_
        replace Ka := Lib.hid (show Blk (va5.setRow (ga) LA) (ga) 38 LA from Ka.out.row_ _)
        replace Kg := Lib.hid (show Blk (va5.setRow (ga) LA) (gg) _ _ from Kg.out.rowfar (by have := Nga.out; omega) _)
        replace Kp := Lib.hid (show Blk (va5.setRow (ga) LA) (gp) _ _ from Kp.out.rowfar (by have := Npa.out; omega) _)
        replace R1 := Lib.hid (RowsA.rowfar R1.out E1a.out LA)
        replace B := Lib.hid (show Below w.heap.size w (va5.setRow (ga) LA) from below_setRow B.out La.out _)
        generalize hw2 : (va5.setRow (ga) LA) = va6 at Kg Kp Ka R1 B ⊢
        clear hw2
        refine hK _ _ (Till.high (by rfl) Kp.out) (fun _ => ?_)
        clear hK K
        refine Ph.takeU (i := 11) (v := .int .i64 0) rfl (Or.inl ⟨by rfl, fun W hW => by go_simp⟩) (Till.high (by rfl) Kp.out) ?_
        (try simp only [Act.put, nA, nB, nC, nD, nE, nF])
        (try simp only [Act.put, nA, nB, nC, nD, nE, nF])
        refine Ph.done (by kernel_rfl) ?_ _
        go_wp2_with fail
        go_meet
        exact ⟨rfl, ga, a1, c1, rfl, Kg, Kp, Ka, R1, La, Lib.hid ⟨Nga.out, Npa.out⟩, B⟩
      · go_simp
        obtain ⟨ga, hga⟩ : ∃ G, va2.heap.size = G := ⟨_, rfl⟩
        have La := Lib.hid (show w.heap.size ≤ ga from by rw [← hga]; exact B.out.size)
        have Nga := Lib.hid (show gg < ga from by rw [← hga]; exact Kg.out.lt)
        have Npa := Lib.hid (show gp < ga from by rw [← hga]; exact Kp.out.lt)
        obtain ⟨va7, hw2, Ka, Kg, Kp, B⟩ : ∃ X, va2.alloc (.cells #[.int .i64 0, .int .i64 0, .int .i64 0, .int .i64 0, .int .u8 0, .int .u8 0, .int .u8 0, .int .u8 0, .int .u8 0, .int .u8 0, .int .u8 0, .int .u8 0, .int .u8 0, .int .u8 0, .int .u8 0, .int .u8 0, .int .u8 0, .int .u8 0, .int .u8 0, .int .u8 0] 38) = X ∧ Hid (Blk X ga 38 #[.int .i64 0, .int .i64 0, .int .i64 0, .int .i64 0, .int .u8 0, .int .u8 0, .int .u8 0, .int .u8 0, .int .u8 0, .int .u8 0, .int .u8 0, .int .u8 0, .int .u8 0, .int .u8 0, .int .u8 0, .int .u8 0, .int .u8 0, .int .u8 0, .int .u8 0, .int .u8 0]) ∧ Hid (Blk X (gg) 24 #[.int .i64 0, .int .i64 1000, .slice none 0 0]) ∧ Hid (Blk X (gp) 28 #[.int .i64 100, .int .i64 110]) ∧ Hid (Below w.heap.size w X) := ⟨_, rfl, Lib.hid (Blk.new' _ _ _ _ hga rfl), Lib.hid (Kg.out.alloc _), Lib.hid (Kp.out.alloc _), Lib.hid (B.out.alloc B.out.size _)⟩
        try rw [hga]
        rw [hw2]
        clear hw2 hga
        refine hK _ _ (Till.low Kg.out Kp.out) (fun _ => ?_)
        clear hK K
        (try simp only [Act.put, nA, nB, nC, nD, nE, nF])
        refine Ph.ready (rs := [3]) (by kernel_rfl) (by simp) (All.cons rfl (fun K hK => ?_) (All.nil))
        go_simp
        refine (G1.out _ (HLA.out.below B.out)).mono ?_
        rintro e va8 ⟨⟨a1, c1, rfl, hr, hf⟩, hb⟩
        have Qg := Lib.hid Kg.out.lt
        have Qp := Lib.hid Kp.out.lt
        have Qa := Lib.hid Ka.out.lt
        replace Kg := Lib.hid (Kg.out.below hb Kg.out.lt)
        replace Kp := Lib.hid (Kp.out.below hb Kp.out.lt)
        replace Ka := Lib.hid (Ka.out.below hb Ka.out.lt)
        replace B := Lib.hid (B.out.trans (hb.mono B.out.size))
        have R1 := Lib.hid hr
        have E1g := Lib.hid (show ∀ p, a1 = some p → p.block ≠ gg from fun p hp => by have h1 := hf p hp; have h2 := Qg.out; omega)
        have E1p := Lib.hid (show ∀ p, a1 = some p → p.block ≠ gp from fun p hp => by have h1 := hf p hp; have h2 := Qp.out; omega)
        have E1a := Lib.hid (show ∀ p, a1 = some p → p.block ≠ ga from fun p hp => by have h1 := hf p hp; have h2 := Qa.out; omega)
        skip
        clear hr hf Qg Qp Qa
        clear hb
        go_wp2_with fail
        refine hK _ _ (Till.high (by rfl) Kp.out) (fun _ => ?_)
        clear hK K
        refine Ph.takeU (i := 4) (v := .tuple #[.agg #[.int .i64 0, .int .i64 1000, .slice a1 s1.length c1], .agg LA, .int .i64 0]) rfl (Or.inl ⟨by rfl, fun W hW => by go_simp⟩) (Till.high (by rfl) Kp.out) ?_
        (try simp only [Act.put, nA, nB, nC, nD, nE, nF])
        refine Ph.takeU (i := 5) (v := .agg #[.int .i64 0, .int .i64 1000, .slice a1 s1.length c1]) rfl (Or.inl ⟨by rfl, fun W hW => by go_simp⟩) (Till.high (by rfl) Kp.out) ?_
        (try simp only [Act.put, nA, nB, nC, nD, nE, nF])
        refine Ph.takeU (i := 6) (v := .agg LA) rfl (Or.inl ⟨by rfl, fun W hW => by go_simp⟩) (Till.high (by rfl) Kp.out) ?_
        (try simp only [Act.put, nA, nB, nC, nD, nE, nF])
        refine Ph.takeU (i := 7) (v := .int .i64 0) rfl (Or.inl ⟨by rfl, fun W hW => by go_simp⟩) (Till.high (by rfl) Kp.out) ?_
        (try simp only [Act.put, nA, nB, nC, nD, nE, nF])
        (try simp only [Act.put, nA, nB, nC, nD, nE, nF])
        refine Ph.ready (rs := [9]) (by kernel_rfl) (by simp) (All.cons rfl (fun K hK => ?_) (All.nil))
        rw [if_pos (by rfl)]
        refine wp_store_row 24 _ _ rfl (gg) 24 #[.int .i64 0, .int .i64 1000, .slice none 0 0] #[.int .i64 0, .int .i64 1000, .slice a1 s1.length c1] rfl rfl (Blk.hs Kg.out) (big_grants _ _ _ _ _).info ((big_grants _ _ _ _ _).same (big_grants _ _ _ _ _)) (big_grants _ _ _ _ _).one rfl ?_
        replace Kg := Lib.hid (show Blk (va8.setRow (gg) #[.int .i64 0, .int .i64 1000, .slice a1 s1.length c1]) (gg) 24 #[.int .i64 0, .int .i64 1000, .slice a1 s1.length c1] from Kg.out.row_ _)
        replace Kp := Lib.hid (show Blk (va8.setRow (gg) #[.int .i64 0, .int .i64 1000, .slice a1 s1.length c1]) (gp) _ _ from Kp.out.rowfar (by have := Ngp.out; omega) _)
        replace Ka := Lib.hid (show Blk (va8.setRow (gg) #[.int .i64 0, .int .i64 1000, .slice a1 s1.length c1]) (ga) _ _ from Ka.out.rowfar (by have := Nga.out; omega) _)
        replace R1 := Lib.hid (RowsA.rowfar R1.out E1g.out #[.int .i64 0, .int .i64 1000, .slice a1 s1.length c1])
        replace B := Lib.hid (show Below w.heap.size w (va8.setRow (gg) #[.int .i64 0, .int .i64 1000, .slice a1 s1.length c1]) from below_setRow B.out Lg.out _)
        generalize hw2 : (va8.setRow (gg) #[.int .i64 0, .int .i64 1000, .slice a1 s1.length c1]) = va9 at Kg Kp Ka R1 B ⊢
        clear hw2
        refine hK _ _ (Till.high (by rfl) Kp.out) (fun _ => ?_)
        clear hK K
        (try simp only [Act.put, nA, nB, nC, nD, nE, nF])
        refine Ph.ready (rs := [10]) (by kernel_rfl) (by simp) (All.cons rfl (fun K hK => ?_) (All.nil))
        rw [if_pos (by rfl)]
        refine wp_store_row 38 _ _ rfl (ga) 38 #[.int .i64 0, .int .i64 0, .int .i64 0, .int .i64 0, .int .u8 0, .int .u8 0, .int .u8 0, .int .u8 0, .int .u8 0, .int .u8 0, .int .u8 0, .int .u8 0, .int .u8 0, .int .u8 0, .int .u8 0, .int .u8 0, .int .u8 0, .int .u8 0, .int .u8 0, .int .u8 0] LA rfl rfl (Blk.hs Ka.out) BNa.out.info (big_leaseZ.same BNa.out) BNa.out.one rfl ?_
        replace Ka := Lib.hid (show Blk (va9.setRow (ga) LA) (ga) 38 LA from Ka.out.row_ _)
        replace Kg := Lib.hid (show Blk (va9.setRow (ga) LA) (gg) _ _ from Kg.out.rowfar (by have := Nga.out; omega) _)
        replace Kp := Lib.hid (show Blk (va9.setRow (ga) LA) (gp) _ _ from Kp.out.rowfar (by have := Npa.out; omega) _)
        replace R1 := Lib.hid (RowsA.rowfar R1.out E1a.out LA)
        replace B := Lib.hid (show Below w.heap.size w (va9.setRow (ga) LA) from below_setRow B.out La.out _)
        generalize hw2 : (va9.setRow (ga) LA) = va10 at Kg Kp Ka R1 B ⊢
        clear hw2
        refine hK _ _ (Till.high (by rfl) Kp.out) (fun _ => ?_)
        clear hK K
        refine Ph.takeU (i := 11) (v := .int .i64 0) rfl (Or.inl ⟨by rfl, fun W hW => by go_simp⟩) (Till.high (by rfl) Kp.out) ?_
        (try simp only [Act.put, nA, nB, nC, nD, nE, nF])
        (try simp only [Act.put, nA, nB, nC, nD, nE, nF])
        refine Ph.done (by kernel_rfl) ?_ _
        go_wp2_with fail
        go_meet
        exact ⟨rfl, ga, a1, c1, rfl, Kg, Kp, Ka, R1, La, Lib.hid ⟨Nga.out, Npa.out⟩, B⟩
    · go_simp
      obtain ⟨ga, hga⟩ : ∃ G, va1.heap.size = G := ⟨_, rfl⟩
      have La := Lib.hid (show w.heap.size ≤ ga from by rw [← hga]; exact B.out.size)
      have Nga := Lib.hid (show gg < ga from by rw [← hga]; exact Kg.out.lt)
      have Npa := Lib.hid (show gp < ga from by rw [← hga]; exact Kp.out.lt)
      obtain ⟨va11, hw2, Ka, Kg, Kp, B⟩ : ∃ X, va1.alloc (.cells #[.int .i64 0, .int .i64 0, .int .i64 0, .int .i64 0, .int .u8 0, .int .u8 0, .int .u8 0, .int .u8 0, .int .u8 0, .int .u8 0, .int .u8 0, .int .u8 0, .int .u8 0, .int .u8 0, .int .u8 0, .int .u8 0, .int .u8 0, .int .u8 0, .int .u8 0, .int .u8 0] 38) = X ∧ Hid (Blk X ga 38 #[.int .i64 0, .int .i64 0, .int .i64 0, .int .i64 0, .int .u8 0, .int .u8 0, .int .u8 0, .int .u8 0, .int .u8 0, .int .u8 0, .int .u8 0, .int .u8 0, .int .u8 0, .int .u8 0, .int .u8 0, .int .u8 0, .int .u8 0, .int .u8 0, .int .u8 0, .int .u8 0]) ∧ Hid (Blk X (gg) 24 #[.int .i64 0, .int .i64 1000, .slice none 0 0]) ∧ Hid (Blk X (gp) 28 #[.int .i64 100, .int .i64 110]) ∧ Hid (Below w.heap.size w X) := ⟨_, rfl, Lib.hid (Blk.new' _ _ _ _ hga rfl), Lib.hid (Kg.out.alloc _), Lib.hid (Kp.out.alloc _), Lib.hid (B.out.alloc B.out.size _)⟩
      try rw [hga]
      rw [hw2]
      clear hw2 hga
      refine hK _ _ (Till.low Kg.out Kp.out) (fun _ => ?_)
      clear hK K
      (try simp only [Act.put, nA, nB, nC, nD, nE, nF])
      refine Ph.ready (rs := [1]) (by kernel_rfl) (by simp) (All.cons rfl (fun K hK => ?_) (All.nil))
      go_simp
      refine (sn_key _).mono ?_
      rintro e va12 ⟨rfl, hb⟩
      replace Kg := Lib.hid (Kg.out.below hb Kg.out.lt)
      replace Kp := Lib.hid (Kp.out.below hb Kp.out.lt)
      replace Ka := Lib.hid (Ka.out.below hb Ka.out.lt)
      replace B := Lib.hid (B.out.trans (hb.mono B.out.size))
      clear hb
      go_wp2_with fail
      refine hK _ _ (Till.low Kg.out Kp.out) (fun _ => ?_)
      clear hK K
      (try simp only [Act.put, nA, nB, nC, nD, nE, nF])
      refine Ph.ready (rs := [3]) (by kernel_rfl) (by simp) (All.cons rfl (fun K hK => ?_) (All.nil))
      go_simp
      refine (G1.out _ (HLA.out.below B.out)).mono ?_
      rintro e va13 ⟨⟨a1, c1, rfl, hr, hf⟩, hb⟩
      have Qg := Lib.hid Kg.out.lt
      have Qp := Lib.hid Kp.out.lt
      have Qa := Lib.hid Ka.out.lt
      replace Kg := Lib.hid (Kg.out.below hb Kg.out.lt)
      replace Kp := Lib.hid (Kp.out.below hb Kp.out.lt)
      replace Ka := Lib.hid (Ka.out.below hb Ka.out.lt)
      replace B := Lib.hid (B.out.trans (hb.mono B.out.size))
      have R1 := Lib.hid hr
      have E1g := Lib.hid (show ∀ p, a1 = some p → p.block ≠ gg from fun p hp => by have h1 := hf p hp; have h2 := Qg.out; omega)
      have E1p := Lib.hid (show ∀ p, a1 = some p → p.block ≠ gp from fun p hp => by have h1 := hf p hp; have h2 := Qp.out; omega)
      have E1a := Lib.hid (show ∀ p, a1 = some p → p.block ≠ ga from fun p hp => by have h1 := hf p hp; have h2 := Qa.out; omega)
      skip
      clear hr hf Qg Qp Qa
      clear hb
      go_wp2_with fail
      refine hK _ _ (Till.high (by rfl) Kp.out) (fun _ => ?_)
      clear hK K
      refine Ph.takeU (i := 4) (v := .tuple #[.agg #[.int .i64 0, .int .i64 1000, .slice a1 s1.length c1], .agg LA, .int .i64 0]) rfl (Or.inl ⟨by rfl, fun W hW => by go_simp⟩) (Till.high (by rfl) Kp.out) ?_
      (try simp only [Act.put, nA, nB, nC, nD, nE, nF])
      refine Ph.takeU (i := 5) (v := .agg #[.int .i64 0, .int .i64 1000, .slice a1 s1.length c1]) rfl (Or.inl ⟨by rfl, fun W hW => by go_simp⟩) (Till.high (by rfl) Kp.out) ?_
      (try simp only [Act.put, nA, nB, nC, nD, nE, nF])
      refine Ph.takeU (i := 6) (v := .agg LA) rfl (Or.inl ⟨by rfl, fun W hW => by go_simp⟩) (Till.high (by rfl) Kp.out) ?_
      (try simp only [Act.put, nA, nB, nC, nD, nE, nF])
      refine Ph.takeU (i := 7) (v := .int .i64 0) rfl (Or.inl ⟨by rfl, fun W hW => by go_simp⟩) (Till.high (by rfl) Kp.out) ?_
      (try simp only [Act.put, nA, nB, nC, nD, nE, nF])
      (try simp only [Act.put, nA, nB, nC, nD, nE, nF])
      refine Ph.ready (rs := [9]) (by kernel_rfl) (by simp) (All.cons rfl (fun K hK => ?_) (All.nil))
      rw [if_pos (by rfl)]
      refine wp_store_row 24 _ _ rfl (gg) 24 #[.int .i64 0, .int .i64 1000, .slice none 0 0] #[.int .i64 0, .int .i64 1000, .slice a1 s1.length c1] rfl rfl (Blk.hs Kg.out) (big_grants _ _ _ _ _).info ((big_grants _ _ _ _ _).same (big_grants _ _ _ _ _)) (big_grants _ _ _ _ _).one rfl ?_
      replace Kg := Lib.hid (show Blk (va13.setRow (gg) #[.int .i64 0, .int .i64 1000, .slice a1 s1.length c1]) (gg) 24 #[.int .i64 0, .int .i64 1000, .slice a1 s1.length c1] from Kg.out.row_ _)
      replace Kp := Lib.hid (show Blk (va13.setRow (gg) #[.int .i64 0, .int .i64 1000, .slice a1 s1.length c1]) (gp) _ _ from Kp.out.rowfar (by have := Ngp.out; omega) _)
      replace Ka := Lib.hid (show Blk (va13.setRow (gg) #[.int .i64 0, .int .i64 1000, .slice a1 s1.length c1]) (ga) _ _ from Ka.out.rowfar (by have := Nga.out; omega) _)
      replace R1 := Lib.hid (RowsA.rowfar R1.out E1g.out #[.int .i64 0, .int .i64 1000, .slice a1 s1.length c1])
      replace B := Lib.hid (show Below w.heap.size w (va13.setRow (gg) #[.int .i64 0, .int .i64 1000, .slice a1 s1.length c1]) from below_setRow B.out Lg.out _)
      generalize hw2 : (va13.setRow (gg) #[.int .i64 0, .int .i64 1000, .slice a1 s1.length c1]) = va14 at Kg Kp Ka R1 B ⊢
      clear hw2
      refine hK _ _ (Till.high (by rfl) Kp.out) (fun _ => ?_)
      clear hK K
      (try simp only [Act.put, nA, nB, nC, nD, nE, nF])
      refine Ph.ready (rs := [10]) (by kernel_rfl) (by simp) (All.cons rfl (fun K hK => ?_) (All.nil))
      rw [if_pos (by rfl)]
      refine wp_store_row 38 _ _ rfl (ga) 38 #[.int .i64 0, .int .i64 0, .int .i64 0, .int .i64 0, .int .u8 0, .int .u8 0, .int .u8 0, .int .u8 0, .int .u8 0, .int .u8 0, .int .u8 0, .int .u8 0, .int .u8 0, .int .u8 0, .int .u8 0, .int .u8 0, .int .u8 0, .int .u8 0, .int .u8 0, .int .u8 0] LA rfl rfl (Blk.hs Ka.out) BNa.out.info (big_leaseZ.same BNa.out) BNa.out.one rfl ?_
      replace Ka := Lib.hid (show Blk (va14.setRow (ga) LA) (ga) 38 LA from Ka.out.row_ _)
      replace Kg := Lib.hid (show Blk (va14.setRow (ga) LA) (gg) _ _ from Kg.out.rowfar (by have := Nga.out; omega) _)
      replace Kp := Lib.hid (show Blk (va14.setRow (ga) LA) (gp) _ _ from Kp.out.rowfar (by have := Npa.out; omega) _)
      replace R1 := Lib.hid (RowsA.rowfar R1.out E1a.out LA)
      replace B := Lib.hid (show Below w.heap.size w (va14.setRow (ga) LA) from below_setRow B.out La.out _)
      generalize hw2 : (va14.setRow (ga) LA) = va15 at Kg Kp Ka R1 B ⊢
      clear hw2
      refine hK _ _ (Till.high (by rfl) Kp.out) (fun _ => ?_)
      clear hK K
      refine Ph.takeU (i := 11) (v := .int .i64 0) rfl (Or.inl ⟨by rfl, fun W hW => by go_simp⟩) (Till.high (by rfl) Kp.out) ?_
      (try simp only [Act.put, nA, nB, nC, nD, nE, nF])
      (try simp only [Act.put, nA, nB, nC, nD, nE, nF])
      refine Ph.done (by kernel_rfl) ?_ _
      go_wp2_with fail
      go_meet
      exact ⟨rfl, ga, a1, c1, rfl, Kg, Kp, Ka, R1, La, Lib.hid ⟨Nga.out, Npa.out⟩, B⟩

  obtain ⟨rfl, ga, a1, c1, rfl, Xg, Xp, Ka, R1, La, XN, XB⟩ := hcut
  clear Kg Kp B
  have Kg := Xg
  have Kp := Xp
  have B := XB
  have Nga := Lib.hid XN.out.1
  have Npa := Lib.hid XN.out.2
  clear XN XB Xg Xp
  have BGa := BNa
  go_upto_region 4 with (fail)
  obtain ⟨bgc0, bgc1, bgc2⟩ := three Kg.out
  obtain ⟨bpc0, bpc1⟩ := twob Kp.out
  obtain ⟨bac0, bac1, bac2, bac3⟩ := LCa.out _ _ Ka.out
  clear bgc0 bgc1 bgc2 bpc0 bpc1 bac0 bac1 bac2 bac3
  go_cut [6, 7] from 35 to 42 (fun u6 u7 wx => u7 = .int .i64 0 ∧ ∃ gb a2 c2, u6 = .pointer (some ⟨gb, 0, none⟩) ∧ Hid (Blk wx (gg) 24 #[.int .i64 0, .int .i64 1000, .slice a2 s2.length c2]) ∧ Hid (Blk wx (gp) 28 #[.int .i64 100, .int .i64 110]) ∧ Hid (Blk wx (ga) 38 (LA)) ∧ Hid (Blk wx gb 38 LB) ∧ Hid (GrA wx a2 s2) ∧ Hid (w.heap.size ≤ gb) ∧ Hid (gg < gb ∧ gp < gb ∧ ga < gb) ∧ Hid (Below w.heap.size w wx))
  case first =>
    refine Ph.start (S := Till 3 (fun W => Blk W (gg) 24 #[.int .i64 0, .int .i64 1000, .slice a1 s1.length c1]) (fun W => Blk W (gp) 28 #[.int .i64 100, .int .i64 110])) (by kernel_rfl) (Till.low Kg.out.drew Kp.out.drew) (fun _ => ?_)
    replace Kg := Lib.hid Kg.out.drew
    replace Kp := Lib.hid Kp.out.drew
    replace Ka := Lib.hid Ka.out.drew
    replace R1 := Lib.hid (R1.out.mono ((Below.refl _ wc).drew))
    replace B := Lib.hid B.out.drew
    generalize wc.drew = vb1 at Kg Kp Ka R1 B ⊢
    refine Ph.takeT (i := 0) (v := .agg #[.int .i64 0, .int .i64 1000, .slice a1 s1.length c1]) rfl (by kernel_rfl) (by kernel_rfl) (by kernel_rfl) (by decide) (by kernel_rfl) (by rfl) (fun _ _ _ h => h) (Or.inl ⟨by rfl, fun W hW => exec_load_row 24 _ rfl (gg) rfl 24 #[.int .i64 0, .int .i64 1000, .slice a1 s1.length c1] (0, 0) _ (hW.1) Tryd.underlying24 rfl (big_grants _ _ _ _ _).info⟩) (Till.low Kg.out Kp.out) ?_
    (try simp only [Act.put, nA, nB, nC, nD, nE, nF])
    refine Ph.takeU (i := 2) (v := .agg #[.int .i64 100, .int .i64 110]) rfl (Or.inl ⟨by rfl, fun W hW => exec_load_row 28 _ rfl (gp) rfl 28 #[.int .i64 100, .int .i64 110] (0, 0) _ (hW) Tryd.underlying28 rfl (big_per _ _).info⟩) (Till.low Kg.out Kp.out) ?_
    (try simp only [Act.put, nA, nB, nC, nD, nE, nF])
    refine Ph.ready (rs := [1, 8]) (by kernel_rfl) (by simp) (All.cons rfl (fun K hK => ?_) (All.cons rfl (fun K hK => ?_) (All.nil)))
    · go_simp
      refine (sn_key _).mono ?_
      rintro e vb2 ⟨rfl, hb⟩
      replace Kg := Lib.hid (Kg.out.below hb Kg.out.lt)
      replace Kp := Lib.hid (Kp.out.below hb Kp.out.lt)
      replace Ka := Lib.hid (Ka.out.below hb Ka.out.lt)
      replace R1 := Lib.hid (R1.out.mono hb)
      replace B := Lib.hid (B.out.trans (hb.mono B.out.size))
      clear hb
      go_wp2_with fail
      refine hK _ _ (Till.low Kg.out Kp.out) (fun _ => ?_)
      clear hK K
      (try simp only [Act.put, nA, nB, nC, nD, nE, nF])
      refine Ph.ready (rs := [3, 8]) (by kernel_rfl) (by simp) (All.cons rfl (fun K hK => ?_) (All.cons rfl (fun K hK => ?_) (All.nil)))
      · go_simp
        refine (G2.out a1 c1 _ R1.out (HLA.out.below B.out)).mono ?_
        rintro e vb3 ⟨⟨a2, c2, rfl, hr, hf⟩, hb⟩
        have Qg := Lib.hid Kg.out.lt
        have Qp := Lib.hid Kp.out.lt
        have Qa := Lib.hid Ka.out.lt
        replace Kg := Lib.hid (Kg.out.below hb Kg.out.lt)
        replace Kp := Lib.hid (Kp.out.below hb Kp.out.lt)
        replace Ka := Lib.hid (Ka.out.below hb Ka.out.lt)
        replace R1 := Lib.hid (R1.out.mono hb)
        replace B := Lib.hid (B.out.trans (hb.mono B.out.size))
        have R2 := Lib.hid hr
        have E2g := Lib.hid (show ∀ p, a2 = some p → p.block ≠ gg from fun p hp => by have h1 := hf p hp; have h2 := Qg.out; omega)
        have E2p := Lib.hid (show ∀ p, a2 = some p → p.block ≠ gp from fun p hp => by have h1 := hf p hp; have h2 := Qp.out; omega)
        have E2a := Lib.hid (show ∀ p, a2 = some p → p.block ≠ ga from fun p hp => by have h1 := hf p hp; have h2 := Qa.out; omega)
        skip
        clear hr hf Qg Qp Qa
        clear hb
        go_wp2_with fail
        refine hK _ _ (Till.high (by rfl) Kp.out) (fun _ => ?_)
        clear hK K
        refine Ph.takeU (i := 4) (v := .tuple #[.agg #[.int .i64 0, .int .i64 1000, .slice a2 s2.length c2], .agg LB, .int .i64 0]) rfl (Or.inl ⟨by rfl, fun W hW => by go_simp⟩) (Till.high (by rfl) Kp.out) ?_
        (try simp only [Act.put, nA, nB, nC, nD, nE, nF])
        refine Ph.takeU (i := 5) (v := .agg #[.int .i64 0, .int .i64 1000, .slice a2 s2.length c2]) rfl (Or.inl ⟨by rfl, fun W hW => by go_simp⟩) (Till.high (by rfl) Kp.out) ?_
        (try simp only [Act.put, nA, nB, nC, nD, nE, nF])
        refine Ph.takeU (i := 6) (v := .agg LB) rfl (Or.inl ⟨by rfl, fun W hW => by go_simp⟩) (Till.high (by rfl) Kp.out) ?_
        (try simp only [Act.put, nA, nB, nC, nD, nE, nF])
        refine Ph.takeU (i := 7) (v := .int .i64 0) rfl (Or.inl ⟨by rfl, fun W hW => by go_simp⟩) (Till.high (by rfl) Kp.out) ?_
        (try simp only [Act.put, nA, nB, nC, nD, nE, nF])
        (try simp only [Act.put, nA, nB, nC, nD, nE, nF])
        refine Ph.ready (rs := [8]) (by kernel_rfl) (by simp) (All.cons rfl (fun K hK => ?_) (All.nil))
        go_simp
        obtain ⟨gb, hgb⟩ : ∃ G, vb3.heap.size = G := ⟨_, rfl⟩
        have Lb := Lib.hid (show w.heap.size ≤ gb from by rw [← hgb]; exact B.out.size)
        have Ngb := Lib.hid (show gg < gb from by rw [← hgb]; exact Kg.out.lt)
        have Npb := Lib.hid (show gp < gb from by rw [← hgb]; exact Kp.out.lt)
        have Nab := Lib.hid (show ga < gb from by rw [← hgb]; exact Ka.out.lt)
        have E1b := Lib.hid (show ∀ p, a1 = some p → p.block ≠ gb from fun p hp => by have h1 := rows_lt R1.out (by decide) p hp; omega)
        replace R1 := Lib.hid (R1.out.mono ((Below.refl _ vb3).alloc (Nat.le_refl _) (.cells #[.int .i64 0, .int .i64 0, .int .i64 0, .int .i64 0, .int .u8 0, .int .u8 0, .int .u8 0, .int .u8 0, .int .u8 0, .int .u8 0, .int .u8 0, .int .u8 0, .int .u8 0, .int .u8 0, .int .u8 0, .int .u8 0, .int .u8 0, .int .u8 0, .int .u8 0, .int .u8 0] 38)))
        have E2b := Lib.hid (show ∀ p, a2 = some p → p.block ≠ gb from fun p hp => by have h1 := rows_lt R2.out (by decide) p hp; omega)
        replace R2 := Lib.hid (R2.out.mono ((Below.refl _ vb3).alloc (Nat.le_refl _) (.cells #[.int .i64 0, .int .i64 0, .int .i64 0, .int .i64 0, .int .u8 0, .int .u8 0, .int .u8 0, .int .u8 0, .int .u8 0, .int .u8 0, .int .u8 0, .int .u8 0, .int .u8 0, .int .u8 0, .int .u8 0, .int .u8 0, .int .u8 0, .int .u8 0, .int .u8 0, .int .u8 0] 38)))
        obtain ⟨vb4, hw2, Kb, Kg, Kp, Ka, B⟩ : ∃ X, vb3.alloc (.cells #[.int .i64 0, .int .i64 0, .int .i64 0, .int .i64 0, .int .u8 0, .int .u8 0, .int .u8 0, .int .u8 0, .int .u8 0, .int .u8 0, .int .u8 0, .int .u8 0, .int .u8 0, .int .u8 0, .int .u8 0, .int .u8 0, .int .u8 0, .int .u8 0, .int .u8 0, .int .u8 0] 38) = X ∧ Hid (Blk X gb 38 #[.int .i64 0, .int .i64 0, .int .i64 0, .int .i64 0, .int .u8 0, .int .u8 0, .int .u8 0, .int .u8 0, .int .u8 0, .int .u8 0, .int .u8 0, .int .u8 0, .int .u8 0, .int .u8 0, .int .u8 0, .int .u8 0, .int .u8 0, .int .u8 0, .int .u8 0, .int .u8 0]) ∧ Hid (Blk X (gg) 24 #[.int .i64 0, .int .i64 1000, .slice a1 s1.length c1]) ∧ Hid (Blk X (gp) 28 #[.int .i64 100, .int .i64 110]) ∧ Hid (Blk X (ga) 38 (LA)) ∧ Hid (Below w.heap.size w X) := ⟨_, rfl, Lib.hid (Blk.new' _ _ _ _ hgb rfl), Lib.hid (Kg.out.alloc _), Lib.hid (Kp.out.alloc _), Lib.hid (Ka.out.alloc _), Lib.hid (B.out.alloc B.out.size _)⟩
        try rw [hgb]
        rw [hw2]
        rw [hw2] at R1 R2
        clear hw2 hgb
        refine hK _ _ (Till.high (by rfl) Kp.out) (fun _ => ?_)
        clear hK K
        (try simp only [Act.put, nA, nB, nC, nD, nE, nF])
        refine Ph.ready (rs := [9]) (by kernel_rfl) (by simp) (All.cons rfl (fun K hK => ?_) (All.nil))
        rw [if_pos (by rfl)]
        refine wp_store_row 24 _ _ rfl (gg) 24 #[.int .i64 0, .int .i64 1000, .slice a1 s1.length c1] #[.int .i64 0, .int .i64 1000, .slice a2 s2.length c2] rfl rfl (Blk.hs Kg.out) (big_grants _ _ _ _ _).info ((big_grants _ _ _ _ _).same (big_grants _ _ _ _ _)) (big_grants _ _ _ _ _).one rfl ?_
        replace Kg := Lib.hid (show Blk (vb4.setRow (gg) #[.int .i64 0, .int .i64 1000, .slice a2 s2.length c2]) (gg) 24 #[.int .i64 0, .int .i64 1000, .slice a2 s2.length c2] from Kg.out.row_ _)
        replace Kp := Lib.hid (show Blk (vb4.setRow (gg) #[.int .i64 0, .int .i64 1000, .slice a2 s2.length c2]) (gp) _ _ from Kp.out.rowfar (by have := Ngp.out; omega) _)
        replace Ka := Lib.hid (show Blk (vb4.setRow (gg) #[.int .i64 0, .int .i64 1000, .slice a2 s2.length c2]) (ga) _ _ from Ka.out.rowfar (by have := Nga.out; omega) _)
        replace Kb := Lib.hid (show Blk (vb4.setRow (gg) #[.int .i64 0, .int .i64 1000, .slice a2 s2.length c2]) (gb) _ _ from Kb.out.rowfar (by have := Ngb.out; omega) _)
        clear R1
        replace R2 := Lib.hid (RowsA.rowfar R2.out E2g.out #[.int .i64 0, .int .i64 1000, .slice a2 s2.length c2])
        replace B := Lib.hid (show Below w.heap.size w (vb4.setRow (gg) #[.int .i64 0, .int .i64 1000, .slice a2 s2.length c2]) from below_setRow B.out Lg.out _)
        generalize hw2 : (vb4.setRow (gg) #[.int .i64 0, .int .i64 1000, .slice a2 s2.length c2]) = vb5 at Kg Kp Ka Kb R2 B ⊢
        clear hw2
        refine hK _ _ (Till.high (by rfl) Kp.out) (fun _ => ?_)
        clear hK K
        (try simp only [Act.put, nA, nB, nC, nD, nE, nF])
        refine Ph.ready (rs := [10]) (by kernel_rfl) (by simp) (All.cons rfl (fun K hK => ?_) (All.nil))
        rw [if_pos (by rfl)]
        refine wp_store_row 38 _ _ rfl (gb) 38 #[.int .i64 0, .int .i64 0, .int .i64 0, .int .i64 0, .int .u8 0, .int .u8 0, .int .u8 0, .int .u8 0, .int .u8 0, .int .u8 0, .int .u8 0, .int .u8 0, .int .u8 0, .int .u8 0, .int .u8 0, .int .u8 0, .int .u8 0, .int .u8 0, .int .u8 0, .int .u8 0] LB rfl rfl (Blk.hs Kb.out) BNb.out.info (big_leaseZ.same BNb.out) BNb.out.one rfl ?_
        replace Kb := Lib.hid (show Blk (vb5.setRow (gb) LB) (gb) 38 LB from Kb.out.row_ _)
        replace Kg := Lib.hid (show Blk (vb5.setRow (gb) LB) (gg) _ _ from Kg.out.rowfar (by have := Ngb.out; omega) _)
        replace Kp := Lib.hid (show Blk (vb5.setRow (gb) LB) (gp) _ _ from Kp.out.rowfar (by have := Npb.out; omega) _)
        replace Ka := Lib.hid (show Blk (vb5.setRow (gb) LB) (ga) _ _ from Ka.out.rowfar (by have := Nab.out; omega) _)
        replace R2 := Lib.hid (RowsA.rowfar R2.out E2b.out LB)
        replace B := Lib.hid (show Below w.heap.size w (vb5.setRow (gb) LB) from below_setRow B.out Lb.out _)
        generalize hw2 : (vb5.setRow (gb) LB) = vb6 at Kg Kp Ka Kb R2 B ⊢
        clear hw2
        refine hK _ _ (Till.high (by rfl) Kp.out) (fun _ => ?_)
        clear hK K
        refine Ph.takeU (i := 11) (v := .int .i64 0) rfl (Or.inl ⟨by rfl, fun W hW => by go_simp⟩) (Till.high (by rfl) Kp.out) ?_
        (try simp only [Act.put, nA, nB, nC, nD, nE, nF])
        (try simp only [Act.put, nA, nB, nC, nD, nE, nF])
        refine Ph.done (by kernel_rfl) ?_ _
        go_wp2_with fail
        go_meet
        exact ⟨rfl, gb, a2, c2, rfl, Kg, Kp, Ka, Kb, R2, Lb, Lib.hid ⟨Ngb.out, Npb.out, Nab.out⟩, B⟩
      · go_simp
        obtain ⟨gb, hgb⟩ : ∃ G, vb2.heap.size = G := ⟨_, rfl⟩
        have Lb := Lib.hid (show w.heap.size ≤ gb from by rw [← hgb]; exact B.out.size)
        have Ngb := Lib.hid (show gg < gb from by rw [← hgb]; exact Kg.out.lt)
        have Npb := Lib.hid (show gp < gb from by rw [← hgb]; exact Kp.out.lt)
        have Nab := Lib.hid (show ga < gb from by rw [← hgb]; exact Ka.out.lt)
        have E1b := Lib.hid (show ∀ p, a1 = some p → p.block ≠ gb from fun p hp => by have h1 := rows_lt R1.out (by decide) p hp; omega)
        replace R1 := Lib.hid (R1.out.mono ((Below.refl _ vb2).alloc (Nat.le_refl _) (.cells #[.int .i64 0, .int .i64 0, .int .i64 0, .int .i64 0, .int .u8 0, .int .u8 0, .int .u8 0, .int .u8 0, .int .u8 0, .int .u8 0, .int .u8 0, .int .u8 0, .int .u8 0, .int .u8 0, .int .u8 0, .int .u8 0, .int .u8 0, .int .u8 0, .int .u8 0, .int .u8 0] 38)))
        obtain ⟨vb7, hw2, Kb, Kg, Kp, Ka, B⟩ : ∃ X, vb2.alloc (.cells #[.int .i64 0, .int .i64 0, .int .i64 0, .int .i64 0, .int .u8 0, .int .u8 0, .int .u8 0, .int .u8 0, .int .u8 0, .int .u8 0, .int .u8 0, .int .u8 0, .int .u8 0, .int .u8 0, .int .u8 0, .int .u8 0, .int .u8 0, .int .u8 0, .int .u8 0, .int .u8 0] 38) = X ∧ Hid (Blk X gb 38 #[.int .i64 0, .int .i64 0, .int .i64 0, .int .i64 0, .int .u8 0, .int .u8 0, .int .u8 0, .int .u8 0, .int .u8 0, .int .u8 0, .int .u8 0, .int .u8 0, .int .u8 0, .int .u8 0, .int .u8 0, .int .u8 0, .int .u8 0, .int .u8 0, .int .u8 0, .int .u8 0]) ∧ Hid (Blk X (gg) 24 #[.int .i64 0, .int .i64 1000, .slice a1 s1.length c1]) ∧ Hid (Blk X (gp) 28 #[.int .i64 100, .int .i64 110]) ∧ Hid (Blk X (ga) 38 (LA)) ∧ Hid (Below w.heap.size w X) := ⟨_, rfl, Lib.hid (Blk.new' _ _ _ _ hgb rfl), Lib.hid (Kg.out.alloc _), Lib.hid (Kp.out.alloc _), Lib.hid (Ka.out.alloc _), Lib.hid (B.out.alloc B.out.size _)⟩
        try rw [hgb]
        rw [hw2]
        rw [hw2] at R1
        clear hw2 hgb
        refine hK _ _ (Till.low Kg.out Kp.out) (fun _ => ?_)
        clear hK K
        (try simp only [Act.put, nA, nB, nC, nD, nE, nF])
        refine Ph.ready (rs := [3]) (by kernel_rfl) (by simp) (All.cons rfl (fun K hK => ?_) (All.nil))
        go_simp
        refine (G2.out a1 c1 _ R1.out (HLA.out.below B.out)).mono ?_
        rintro e vb8 ⟨⟨a2, c2, rfl, hr, hf⟩, hb⟩
        have Qg := Lib.hid Kg.out.lt
        have Qp := Lib.hid Kp.out.lt
        have Qa := Lib.hid Ka.out.lt
        have Qb := Lib.hid Kb.out.lt
        replace Kg := Lib.hid (Kg.out.below hb Kg.out.lt)
        replace Kp := Lib.hid (Kp.out.below hb Kp.out.lt)
        replace Ka := Lib.hid (Ka.out.below hb Ka.out.lt)
        replace Kb := Lib.hid (Kb.out.below hb Kb.out.lt)
        replace R1 := Lib.hid (R1.out.mono hb)
        replace B := Lib.hid (B.out.trans (hb.mono B.out.size))
        have R2 := Lib.hid hr
        have E2g := Lib.hid (show ∀ p, a2 = some p → p.block ≠ gg from fun p hp => by have h1 := hf p hp; have h2 := Qg.out; omega)
        have E2p := Lib.hid (show ∀ p, a2 = some p → p.block ≠ gp from fun p hp => by have h1 := hf p hp; have h2 := Qp.out; omega)
        have E2a := Lib.hid (show ∀ p, a2 = some p → p.block ≠ ga from fun p hp => by have h1 := hf p hp; have h2 := Qa.out; omega)
        have E2b := Lib.hid (show ∀ p, a2 = some p → p.block ≠ gb from fun p hp => by have h1 := hf p hp; have h2 := Qb.out; omega)
        skip
        clear hr hf Qg Qp Qa Qb
        clear hb
        go_wp2_with fail
        refine hK _ _ (Till.high (by rfl) Kp.out) (fun _ => ?_)
        clear hK K
        refine Ph.takeU (i := 4) (v := .tuple #[.agg #[.int .i64 0, .int .i64 1000, .slice a2 s2.length c2], .agg LB, .int .i64 0]) rfl (Or.inl ⟨by rfl, fun W hW => by go_simp⟩) (Till.high (by rfl) Kp.out) ?_
        (try simp only [Act.put, nA, nB, nC, nD, nE, nF])
        refine Ph.takeU (i := 5) (v := .agg #[.int .i64 0, .int .i64 1000, .slice a2 s2.length c2]) rfl (Or.inl ⟨by rfl, fun W hW => by go_simp⟩) (Till.high (by rfl) Kp.out) ?_
        (try simp only [Act.put, nA, nB, nC, nD, nE, nF])
        refine Ph.takeU (i := 6) (v := .agg LB) rfl (Or.inl ⟨by rfl, fun W hW => by go_simp⟩) (Till.high (by rfl) Kp.out) ?_
        (try simp only [Act.put, nA, nB, nC, nD, nE, nF])
        refine Ph.takeU (i := 7) (v := .int .i64 0) rfl (Or.inl ⟨by rfl, fun W hW => by go_simp⟩) (Till.high (by rfl) Kp.out) ?_
        (try simp only [Act.put, nA, nB, nC, nD, nE, nF])
        (try simp only [Act.put, nA, nB, nC, nD, nE, nF])
        refine Ph.ready (rs := [9]) (by kernel_rfl) (by simp) (All.cons rfl (fun K hK => ?_) (All.nil))
        rw [if_pos (by rfl)]
        refine wp_store_row 24 _ _ rfl (gg) 24 #[.int .i64 0, .int .i64 1000, .slice a1 s1.length c1] #[.int .i64 0, .int .i64 1000, .slice a2 s2.length c2] rfl rfl (Blk.hs Kg.out) (big_grants _ _ _ _ _).info ((big_grants _ _ _ _ _).same (big_grants _ _ _ _ _)) (big_grants _ _ _ _ _).one rfl ?_
        replace Kg := Lib.hid (show Blk (vb8.setRow (gg) #[.int .i64 0, .int .i64 1000, .slice a2 s2.length c2]) (gg) 24 #[.int .i64 0, .int .i64 1000, .slice a2 s2.length c2] from Kg.out.row_ _)
        replace Kp := Lib.hid (show Blk (vb8.setRow (gg) #[.int .i64 0, .int .i64 1000, .slice a2 s2.length c2]) (gp) _ _ from Kp.out.rowfar (by have := Ngp.out; omega) _)
        replace Ka := Lib.hid (show Blk (vb8.setRow (gg) #[.int .i64 0, .int .i64 1000, .slice a2 s2.length c2]) (ga) _ _ from Ka.out.rowfar (by have := Nga.out; omega) _)
        replace Kb := Lib.hid (show Blk (vb8.setRow (gg) #[.int .i64 0, .int .i64 1000, .slice a2 s2.length c2]) (gb) _ _ from Kb.out.rowfar (by have := Ngb.out; omega) _)
        clear R1
        replace R2 := Lib.hid (RowsA.rowfar R2.out E2g.out #[.int .i64 0, .int .i64 1000, .slice a2 s2.length c2])
        replace B := Lib.hid (show Below w.heap.size w (vb8.setRow (gg) #[.int .i64 0, .int .i64 1000, .slice a2 s2.length c2]) from below_setRow B.out Lg.out _)
        generalize hw2 : (vb8.setRow (gg) #[.int .i64 0, .int .i64 1000, .slice a2 s2.length c2]) = vb9 at Kg Kp Ka Kb R2 B ⊢
        clear hw2
        refine hK _ _ (Till.high (by rfl) Kp.out) (fun _ => ?_)
        clear hK K
        (try simp only [Act.put, nA, nB, nC, nD, nE, nF])
        refine Ph.ready (rs := [10]) (by kernel_rfl) (by simp) (All.cons rfl (fun K hK => ?_) (All.nil))
        rw [if_pos (by rfl)]
        refine wp_store_row 38 _ _ rfl (gb) 38 #[.int .i64 0, .int .i64 0, .int .i64 0, .int .i64 0, .int .u8 0, .int .u8 0, .int .u8 0, .int .u8 0, .int .u8 0, .int .u8 0, .int .u8 0, .int .u8 0, .int .u8 0, .int .u8 0, .int .u8 0, .int .u8 0, .int .u8 0, .int .u8 0, .int .u8 0, .int .u8 0] LB rfl rfl (Blk.hs Kb.out) BNb.out.info (big_leaseZ.same BNb.out) BNb.out.one rfl ?_
        replace Kb := Lib.hid (show Blk (vb9.setRow (gb) LB) (gb) 38 LB from Kb.out.row_ _)
        replace Kg := Lib.hid (show Blk (vb9.setRow (gb) LB) (gg) _ _ from Kg.out.rowfar (by have := Ngb.out; omega) _)
        replace Kp := Lib.hid (show Blk (vb9.setRow (gb) LB) (gp) _ _ from Kp.out.rowfar (by have := Npb.out; omega) _)
        replace Ka := Lib.hid (show Blk (vb9.setRow (gb) LB) (ga) _ _ from Ka.out.rowfar (by have := Nab.out; omega) _)
        replace R2 := Lib.hid (RowsA.rowfar R2.out E2b.out LB)
        replace B := Lib.hid (show Below w.heap.size w (vb9.setRow (gb) LB) from below_setRow B.out Lb.out _)
        generalize hw2 : (vb9.setRow (gb) LB) = vb10 at Kg Kp Ka Kb R2 B ⊢
        clear hw2
        refine hK _ _ (Till.high (by rfl) Kp.out) (fun _ => ?_)
        clear hK K
        refine Ph.takeU (i := 11) (v := .int .i64 0) rfl (Or.inl ⟨by rfl, fun W hW => by go_simp⟩) (Till.high (by rfl) Kp.out) ?_
        (try simp only [Act.put, nA, nB, nC, nD, nE, nF])
        (try simp only [Act.put, nA, nB, nC, nD, nE, nF])
        refine Ph.done (by kernel_rfl) ?_ _
        go_wp2_with fail
        go_meet
        exact ⟨rfl, gb, a2, c2, rfl, Kg, Kp, Ka, Kb, R2, Lb, Lib.hid ⟨Ngb.out, Npb.out, Nab.out⟩, B⟩
    · go_simp
      obtain ⟨gb, hgb⟩ : ∃ G, vb1.heap.size = G := ⟨_, rfl⟩
      have Lb := Lib.hid (show w.heap.size ≤ gb from by rw [← hgb]; exact B.out.size)
      have Ngb := Lib.hid (show gg < gb from by rw [← hgb]; exact Kg.out.lt)
      have Npb := Lib.hid (show gp < gb from by rw [← hgb]; exact Kp.out.lt)
      have Nab := Lib.hid (show ga < gb from by rw [← hgb]; exact Ka.out.lt)
      have E1b := Lib.hid (show ∀ p, a1 = some p → p.block ≠ gb from fun p hp => by have h1 := rows_lt R1.out (by decide) p hp; omega)
      replace R1 := Lib.hid (R1.out.mono ((Below.refl _ vb1).alloc (Nat.le_refl _) (.cells #[.int .i64 0, .int .i64 0, .int .i64 0, .int .i64 0, .int .u8 0, .int .u8 0, .int .u8 0, .int .u8 0, .int .u8 0, .int .u8 0, .int .u8 0, .int .u8 0, .int .u8 0, .int .u8 0, .int .u8 0, .int .u8 0, .int .u8 0, .int .u8 0, .int .u8 0, .int .u8 0] 38)))
      obtain ⟨vb11, hw2, Kb, Kg, Kp, Ka, B⟩ : ∃ X, vb1.alloc (.cells #[.int .i64 0, .int .i64 0, .int .i64 0, .int .i64 0, .int .u8 0, .int .u8 0, .int .u8 0, .int .u8 0, .int .u8 0, .int .u8 0, .int .u8 0, .int .u8 0, .int .u8 0, .int .u8 0, .int .u8 0, .int .u8 0, .int .u8 0, .int .u8 0, .int .u8 0, .int .u8 0] 38) = X ∧ Hid (Blk X gb 38 #[.int .i64 0, .int .i64 0, .int .i64 0, .int .i64 0, .int .u8 0, .int .u8 0, .int .u8 0, .int .u8 0, .int .u8 0, .int .u8 0, .int .u8 0, .int .u8 0, .int .u8 0, .int .u8 0, .int .u8 0, .int .u8 0, .int .u8 0, .int .u8 0, .int .u8 0, .int .u8 0]) ∧ Hid (Blk X (gg) 24 #[.int .i64 0, .int .i64 1000, .slice a1 s1.length c1]) ∧ Hid (Blk X (gp) 28 #[.int .i64 100, .int .i64 110]) ∧ Hid (Blk X (ga) 38 (LA)) ∧ Hid (Below w.heap.size w X) := ⟨_, rfl, Lib.hid (Blk.new' _ _ _ _ hgb rfl), Lib.hid (Kg.out.alloc _), Lib.hid (Kp.out.alloc _), Lib.hid (Ka.out.alloc _), Lib.hid (B.out.alloc B.out.size _)⟩
      try rw [hgb]
      rw [hw2]
      rw [hw2] at R1
      clear hw2 hgb
      refine hK _ _ (Till.low Kg.out Kp.out) (fun _ => ?_)
      clear hK K
      (try simp only [Act.put, nA, nB, nC, nD, nE, nF])
      refine Ph.ready (rs := [1]) (by kernel_rfl) (by simp) (All.cons rfl (fun K hK => ?_) (All.nil))
      go_simp
      refine (sn_key _).mono ?_
      rintro e vb12 ⟨rfl, hb⟩
      replace Kg := Lib.hid (Kg.out.below hb Kg.out.lt)
      replace Kp := Lib.hid (Kp.out.below hb Kp.out.lt)
      replace Ka := Lib.hid (Ka.out.below hb Ka.out.lt)
      replace Kb := Lib.hid (Kb.out.below hb Kb.out.lt)
      replace R1 := Lib.hid (R1.out.mono hb)
      replace B := Lib.hid (B.out.trans (hb.mono B.out.size))
      clear hb
      go_wp2_with fail
      refine hK _ _ (Till.low Kg.out Kp.out) (fun _ => ?_)
      clear hK K
      (try simp only [Act.put, nA, nB, nC, nD, nE, nF])
      refine Ph.ready (rs := [3]) (by kernel_rfl) (by simp) (All.cons rfl (fun K hK => ?_) (All.nil))
      go_simp
      refine (G2.out a1 c1 _ R1.out (HLA.out.below B.out)).mono ?_
      rintro e vb13 ⟨⟨a2, c2, rfl, hr, hf⟩, hb⟩
      have Qg := Lib.hid Kg.out.lt
      have Qp := Lib.hid Kp.out.lt
      have Qa := Lib.hid Ka.out.lt
      have Qb := Lib.hid Kb.out.lt
      replace Kg := Lib.hid (Kg.out.below hb Kg.out.lt)
      replace Kp := Lib.hid (Kp.out.below hb Kp.out.lt)
      replace Ka := Lib.hid (Ka.out.below hb Ka.out.lt)
      replace Kb := Lib.hid (Kb.out.below hb Kb.out.lt)
      replace R1 := Lib.hid (R1.out.mono hb)
      replace B := Lib.hid (B.out.trans (hb.mono B.out.size))
      have R2 := Lib.hid hr
      have E2g := Lib.hid (show ∀ p, a2 = some p → p.block ≠ gg from fun p hp => by have h1 := hf p hp; have h2 := Qg.out; omega)
      have E2p := Lib.hid (show ∀ p, a2 = some p → p.block ≠ gp from fun p hp => by have h1 := hf p hp; have h2 := Qp.out; omega)
      have E2a := Lib.hid (show ∀ p, a2 = some p → p.block ≠ ga from fun p hp => by have h1 := hf p hp; have h2 := Qa.out; omega)
      have E2b := Lib.hid (show ∀ p, a2 = some p → p.block ≠ gb from fun p hp => by have h1 := hf p hp; have h2 := Qb.out; omega)
      skip
      clear hr hf Qg Qp Qa Qb
      clear hb
      go_wp2_with fail
      refine hK _ _ (Till.high (by rfl) Kp.out) (fun _ => ?_)
      clear hK K
      refine Ph.takeU (i := 4) (v := .tuple #[.agg #[.int .i64 0, .int .i64 1000, .slice a2 s2.length c2], .agg LB, .int .i64 0]) rfl (Or.inl ⟨by rfl, fun W hW => by go_simp⟩) (Till.high (by rfl) Kp.out) ?_
      (try simp only [Act.put, nA, nB, nC, nD, nE, nF])
      refine Ph.takeU (i := 5) (v := .agg #[.int .i64 0, .int .i64 1000, .slice a2 s2.length c2]) rfl (Or.inl ⟨by rfl, fun W hW => by go_simp⟩) (Till.high (by rfl) Kp.out) ?_
      (try simp only [Act.put, nA, nB, nC, nD, nE, nF])
      refine Ph.takeU (i := 6) (v := .agg LB) rfl (Or.inl ⟨by rfl, fun W hW => by go_simp⟩) (Till.high (by rfl) Kp.out) ?_
      (try simp only [Act.put, nA, nB, nC, nD, nE, nF])
      refine Ph.takeU (i := 7) (v := .int .i64 0) rfl (Or.inl ⟨by rfl, fun W hW => by go_simp⟩) (Till.high (by rfl) Kp.out) ?_
      (try simp only [Act.put, nA, nB, nC, nD, nE, nF])
      (try simp only [Act.put, nA, nB, nC, nD, nE, nF])
      refine Ph.ready (rs := [9]) (by kernel_rfl) (by simp) (All.cons rfl (fun K hK => ?_) (All.nil))
      rw [if_pos (by rfl)]
      refine wp_store_row 24 _ _ rfl (gg) 24 #[.int .i64 0, .int .i64 1000, .slice a1 s1.length c1] #[.int .i64 0, .int .i64 1000, .slice a2 s2.length c2] rfl rfl (Blk.hs Kg.out) (big_grants _ _ _ _ _).info ((big_grants _ _ _ _ _).same (big_grants _ _ _ _ _)) (big_grants _ _ _ _ _).one rfl ?_
      replace Kg := Lib.hid (show Blk (vb13.setRow (gg) #[.int .i64 0, .int .i64 1000, .slice a2 s2.length c2]) (gg) 24 #[.int .i64 0, .int .i64 1000, .slice a2 s2.length c2] from Kg.out.row_ _)
      replace Kp := Lib.hid (show Blk (vb13.setRow (gg) #[.int .i64 0, .int .i64 1000, .slice a2 s2.length c2]) (gp) _ _ from Kp.out.rowfar (by have := Ngp.out; omega) _)
      replace Ka := Lib.hid (show Blk (vb13.setRow (gg) #[.int .i64 0, .int .i64 1000, .slice a2 s2.length c2]) (ga) _ _ from Ka.out.rowfar (by have := Nga.out; omega) _)
      replace Kb := Lib.hid (show Blk (vb13.setRow (gg) #[.int .i64 0, .int .i64 1000, .slice a2 s2.length c2]) (gb) _ _ from Kb.out.rowfar (by have := Ngb.out; omega) _)
      clear R1
      replace R2 := Lib.hid (RowsA.rowfar R2.out E2g.out #[.int .i64 0, .int .i64 1000, .slice a2 s2.length c2])
      replace B := Lib.hid (show Below w.heap.size w (vb13.setRow (gg) #[.int .i64 0, .int .i64 1000, .slice a2 s2.length c2]) from below_setRow B.out Lg.out _)
      generalize hw2 : (vb13.setRow (gg) #[.int .i64 0, .int .i64 1000, .slice a2 s2.length c2]) = vb14 at Kg Kp Ka Kb R2 B ⊢
      clear hw2
      refine hK _ _ (Till.high (by rfl) Kp.out) (fun _ => ?_)
      clear hK K
      (try simp only [Act.put, nA, nB, nC, nD, nE, nF])
      refine Ph.ready (rs := [10]) (by kernel_rfl) (by simp) (All.cons rfl (fun K hK => ?_) (All.nil))
      rw [if_pos (by rfl)]
      refine wp_store_row 38 _ _ rfl (gb) 38 #[.int .i64 0, .int .i64 0, .int .i64 0, .int .i64 0, .int .u8 0, .int .u8 0, .int .u8 0, .int .u8 0, .int .u8 0, .int .u8 0, .int .u8 0, .int .u8 0, .int .u8 0, .int .u8 0, .int .u8 0, .int .u8 0, .int .u8 0, .int .u8 0, .int .u8 0, .int .u8 0] LB rfl rfl (Blk.hs Kb.out) BNb.out.info (big_leaseZ.same BNb.out) BNb.out.one rfl ?_
      replace Kb := Lib.hid (show Blk (vb14.setRow (gb) LB) (gb) 38 LB from Kb.out.row_ _)
      replace Kg := Lib.hid (show Blk (vb14.setRow (gb) LB) (gg) _ _ from Kg.out.rowfar (by have := Ngb.out; omega) _)
      replace Kp := Lib.hid (show Blk (vb14.setRow (gb) LB) (gp) _ _ from Kp.out.rowfar (by have := Npb.out; omega) _)
      replace Ka := Lib.hid (show Blk (vb14.setRow (gb) LB) (ga) _ _ from Ka.out.rowfar (by have := Nab.out; omega) _)
      replace R2 := Lib.hid (RowsA.rowfar R2.out E2b.out LB)
      replace B := Lib.hid (show Below w.heap.size w (vb14.setRow (gb) LB) from below_setRow B.out Lb.out _)
      generalize hw2 : (vb14.setRow (gb) LB) = vb15 at Kg Kp Ka Kb R2 B ⊢
      clear hw2
      refine hK _ _ (Till.high (by rfl) Kp.out) (fun _ => ?_)
      clear hK K
      refine Ph.takeU (i := 11) (v := .int .i64 0) rfl (Or.inl ⟨by rfl, fun W hW => by go_simp⟩) (Till.high (by rfl) Kp.out) ?_
      (try simp only [Act.put, nA, nB, nC, nD, nE, nF])
      (try simp only [Act.put, nA, nB, nC, nD, nE, nF])
      refine Ph.done (by kernel_rfl) ?_ _
      go_wp2_with fail
      go_meet
      exact ⟨rfl, gb, a2, c2, rfl, Kg, Kp, Ka, Kb, R2, Lb, Lib.hid ⟨Ngb.out, Npb.out, Nab.out⟩, B⟩

  obtain ⟨rfl, gb, a2, c2, rfl, Xg, Xp, Xa, Kb, R2, Lb, XN, XB⟩ := hcut
  clear Kg Kp Ka R1 B
  have Kg := Xg
  have Kp := Xp
  have Ka := Xa
  have B := XB
  have Ngb := Lib.hid XN.out.1
  have Npb := Lib.hid XN.out.2.1
  have Nab := Lib.hid XN.out.2.2
  clear XN XB Xg Xp Xa
  have BGb := BNb
  obtain ⟨bgc0, bgc1, bgc2⟩ := three Kg.out
  obtain ⟨bpc0, bpc1⟩ := twob Kp.out
  obtain ⟨bac0, bac1, bac2, bac3⟩ := LCa.out _ _ Ka.out
  obtain ⟨bbc0, bbc1, bbc2, bbc3⟩ := LCb.out _ _ Kb.out
  have Qg := Lib.hid Kg.out.lt
  go_wp2_with fail
  refine (sn_is a2 c2 _ R2.out).mono ?_
  rintro e w4 ⟨⟨a3, c3, rfl, hr, hf⟩, hb⟩
  have Z3 := Lib.hid hr
  have F3 := Lib.hid hf
  replace Kg := Lib.hid (Kg.out.below hb Kg.out.lt)
  replace Kp := Lib.hid (Kp.out.below hb Kp.out.lt)
  replace Ka := Lib.hid (Ka.out.below hb Ka.out.lt)
  replace Kb := Lib.hid (Kb.out.below hb Kb.out.lt)
  replace R2 := Lib.hid (R2.out.mono hb)
  replace B := Lib.hid (B.out.trans (hb.mono B.out.size))
  clear bgc0 bgc1 bgc2 bpc0 bpc1 bac0 bac1 bac2 bac3 bbc0 bbc1 bbc2 bbc3
  clear hb hr hf
  obtain ⟨bgc0, bgc1, bgc2⟩ := three Kg.out
  obtain ⟨bpc0, bpc1⟩ := twob Kp.out
  obtain ⟨bac0, bac1, bac2, bac3⟩ := LCa.out _ _ Ka.out
  obtain ⟨bbc0, bbc1, bbc2, bbc3⟩ := LCb.out _ _ Kb.out
  have R3 := Z3
  clear Z3
  have E3g := Lib.hid (show ∀ p, a3 = some p → p.block ≠ gg from fun p hp => by have h1 := F3.out p hp; have h2 := Qg.out; omega)
  clear F3 Qg
  clear R2
  clear bgc0 bgc1 bgc2 bpc0 bpc1 bac0 bac1 bac2 bac3 bbc0 bbc1 bbc2 bbc3
  obtain ⟨bgc0, bgc1, bgc2⟩ := three Kg.out
  obtain ⟨bpc0, bpc1⟩ := twob Kp.out
  obtain ⟨bac0, bac1, bac2, bac3⟩ := LCa.out _ _ Ka.out
  obtain ⟨bbc0, bbc1, bbc2, bbc3⟩ := LCb.out _ _ Kb.out
  have fzg := fun q => Kg.out.frozen q
  replace Kg := Lib.hid (show Blk (w4.setCell ⟨gg, 0, none⟩ (.int .i64 1)) (gg) 24 #[.int .i64 1, .int .i64 1000, .slice a2 s2.length c2] from Kg.out.set_ 0 (.int .i64 1))
  replace Kp := Lib.hid (show Blk (w4.setCell ⟨gg, 0, none⟩ (.int .i64 1)) (gp) _ _ from Kp.out.far (p := ⟨gg, 0, none⟩) (by first | (have := Npg.out; show gp ≠ gg; omega) | (have := Ngp.out; show gp ≠ gg; omega)) (.int .i64 1))
  replace Ka := Lib.hid (show Blk (w4.setCell ⟨gg, 0, none⟩ (.int .i64 1)) (ga) _ _ from Ka.out.far (p := ⟨gg, 0, none⟩) (by first | (have := Nag.out; show ga ≠ gg; omega) | (have := Nga.out; show ga ≠ gg; omega)) (.int .i64 1))
  replace Kb := Lib.hid (show Blk (w4.setCell ⟨gg, 0, none⟩ (.int .i64 1)) (gb) _ _ from Kb.out.far (p := ⟨gg, 0, none⟩) (by first | (have := Nbg.out; show gb ≠ gg; omega) | (have := Ngb.out; show gb ≠ gg; omega)) (.int .i64 1))
  replace R3 := Lib.hid (RowsA.far R3.out (p := ⟨gg, 0, none⟩) E3g.out (.int .i64 1))
  replace B := Lib.hid (show Below w.heap.size w (w4.setCell ⟨gg, 0, none⟩ (.int .i64 1)) from B.out.setCell (p := ⟨gg, 0, none⟩) Lg.out (.int .i64 1))
  replace Kg := Lib.hid (show Blk ((w4.setCell ⟨gg, 0, none⟩ (.int .i64 1)).setCell ⟨gg, 1, none⟩ (.int .i64 1000)) (gg) 24 #[.int .i64 1, .int .i64 1000, .slice a2 s2.length c2] from Kg.out.set_ 1 (.int .i64 1000))
  replace Kp := Lib.hid (show Blk ((w4.setCell ⟨gg, 0, none⟩ (.int .i64 1)).setCell ⟨gg, 1, none⟩ (.int .i64 1000)) (gp) _ _ from Kp.out.far (p := ⟨gg, 1, none⟩) (by first | (have := Npg.out; show gp ≠ gg; omega) | (have := Ngp.out; show gp ≠ gg; omega)) (.int .i64 1000))
  replace Ka := Lib.hid (show Blk ((w4.setCell ⟨gg, 0, none⟩ (.int .i64 1)).setCell ⟨gg, 1, none⟩ (.int .i64 1000)) (ga) _ _ from Ka.out.far (p := ⟨gg, 1, none⟩) (by first | (have := Nag.out; show ga ≠ gg; omega) | (have := Nga.out; show ga ≠ gg; omega)) (.int .i64 1000))
  replace Kb := Lib.hid (show Blk ((w4.setCell ⟨gg, 0, none⟩ (.int .i64 1)).setCell ⟨gg, 1, none⟩ (.int .i64 1000)) (gb) _ _ from Kb.out.far (p := ⟨gg, 1, none⟩) (by first | (have := Nbg.out; show gb ≠ gg; omega) | (have := Ngb.out; show gb ≠ gg; omega)) (.int .i64 1000))
  replace R3 := Lib.hid (RowsA.far R3.out (p := ⟨gg, 1, none⟩) E3g.out (.int .i64 1000))
  replace B := Lib.hid (show Below w.heap.size w ((w4.setCell ⟨gg, 0, none⟩ (.int .i64 1)).setCell ⟨gg, 1, none⟩ (.int .i64 1000)) from B.out.setCell (p := ⟨gg, 1, none⟩) Lg.out (.int .i64 1000))
  replace Kg := Lib.hid (show Blk (((w4.setCell ⟨gg, 0, none⟩ (.int .i64 1)).setCell ⟨gg, 1, none⟩ (.int .i64 1000)).setCell ⟨gg, 2, none⟩ (.slice a3 s2.length c3)) (gg) 24 #[.int .i64 1, .int .i64 1000, .slice a3 s2.length c3] from Kg.out.set_ 2 (.slice a3 s2.length c3))
  replace Kp := Lib.hid (show Blk (((w4.setCell ⟨gg, 0, none⟩ (.int .i64 1)).setCell ⟨gg, 1, none⟩ (.int .i64 1000)).setCell ⟨gg, 2, none⟩ (.slice a3 s2.length c3)) (gp) _ _ from Kp.out.far (p := ⟨gg, 2, none⟩) (by first | (have := Npg.out; show gp ≠ gg; omega) | (have := Ngp.out; show gp ≠ gg; omega)) (.slice a3 s2.length c3))
  replace Ka := Lib.hid (show Blk (((w4.setCell ⟨gg, 0, none⟩ (.int .i64 1)).setCell ⟨gg, 1, none⟩ (.int .i64 1000)).setCell ⟨gg, 2, none⟩ (.slice a3 s2.length c3)) (ga) _ _ from Ka.out.far (p := ⟨gg, 2, none⟩) (by first | (have := Nag.out; show ga ≠ gg; omega) | (have := Nga.out; show ga ≠ gg; omega)) (.slice a3 s2.length c3))
  replace Kb := Lib.hid (show Blk (((w4.setCell ⟨gg, 0, none⟩ (.int .i64 1)).setCell ⟨gg, 1, none⟩ (.int .i64 1000)).setCell ⟨gg, 2, none⟩ (.slice a3 s2.length c3)) (gb) _ _ from Kb.out.far (p := ⟨gg, 2, none⟩) (by first | (have := Nbg.out; show gb ≠ gg; omega) | (have := Ngb.out; show gb ≠ gg; omega)) (.slice a3 s2.length c3))
  replace R3 := Lib.hid (RowsA.far R3.out (p := ⟨gg, 2, none⟩) E3g.out (.slice a3 s2.length c3))
  replace B := Lib.hid (show Below w.heap.size w (((w4.setCell ⟨gg, 0, none⟩ (.int .i64 1)).setCell ⟨gg, 1, none⟩ (.int .i64 1000)).setCell ⟨gg, 2, none⟩ (.slice a3 s2.length c3)) from B.out.setCell (p := ⟨gg, 2, none⟩) Lg.out (.slice a3 s2.length c3))
  go_upto_region 6 with (fail)
  generalize hw : (((w4.setCell ⟨gg, 0, none⟩ (.int .i64 1)).setCell ⟨gg, 1, none⟩ (.int .i64 1000)).setCell ⟨gg, 2, none⟩ (.slice a3 s2.length c3)) = w5 at Kg Kp Ka Kb R3 B ⊢
  clear bgc0 bgc1 bgc2 bpc0 bpc1 bac0 bac1 bac2 bac3 bbc0 bbc1 bbc2 bbc3 fzg
  clear hw
  obtain ⟨bgc0, bgc1, bgc2⟩ := three Kg.out
  obtain ⟨bpc0, bpc1⟩ := twob Kp.out
  obtain ⟨bac0, bac1, bac2, bac3⟩ := LCa.out _ _ Ka.out
  obtain ⟨bbc0, bbc1, bbc2, bbc3⟩ := LCb.out _ _ Kb.out
  go_wp2_with (fail)
  refine (sn_d1 a3 c3 _ R3.out).mono ?_
  rintro e w6 ⟨rfl, hb⟩
  replace Kg := Lib.hid (Kg.out.below hb Kg.out.lt)
  replace Kp := Lib.hid (Kp.out.below hb Kp.out.lt)
  replace Ka := Lib.hid (Ka.out.below hb Ka.out.lt)
  replace Kb := Lib.hid (Kb.out.below hb Kb.out.lt)
  replace R3 := Lib.hid (R3.out.mono hb)
  replace B := Lib.hid (B.out.trans (hb.mono B.out.size))
  clear bgc0 bgc1 bgc2 bpc0 bpc1 bac0 bac1 bac2 bac3 bbc0 bbc1 bbc2 bbc3
  clear hb
  obtain ⟨bgc0, bgc1, bgc2⟩ := three Kg.out
  obtain ⟨bpc0, bpc1⟩ := twob Kp.out
  obtain ⟨bac0, bac1, bac2, bac3⟩ := LCa.out _ _ Ka.out
  obtain ⟨bbc0, bbc1, bbc2, bbc3⟩ := LCb.out _ _ Kb.out
  have Qg := Lib.hid Kg.out.lt
  go_wp2_with fail
  refine (sn_wt a3 c3 _ R3.out).mono ?_
  rintro e w7 ⟨⟨aw, cw, rfl, hr, hf⟩, hb⟩
  have Zw := Lib.hid hr
  have Fw := Lib.hid hf
  replace Kg := Lib.hid (Kg.out.below hb Kg.out.lt)
  replace Kp := Lib.hid (Kp.out.below hb Kp.out.lt)
  replace Ka := Lib.hid (Ka.out.below hb Ka.out.lt)
  replace Kb := Lib.hid (Kb.out.below hb Kb.out.lt)
  replace R3 := Lib.hid (R3.out.mono hb)
  replace B := Lib.hid (B.out.trans (hb.mono B.out.size))
  clear bgc0 bgc1 bgc2 bpc0 bpc1 bac0 bac1 bac2 bac3 bbc0 bbc1 bbc2 bbc3
  clear hb hr hf
  obtain ⟨bgc0, bgc1, bgc2⟩ := three Kg.out
  obtain ⟨bpc0, bpc1⟩ := twob Kp.out
  obtain ⟨bac0, bac1, bac2, bac3⟩ := LCa.out _ _ Ka.out
  obtain ⟨bbc0, bbc1, bbc2, bbc3⟩ := LCb.out _ _ Kb.out
  have Rw := Zw
  clear Zw
  have Ewg := Lib.hid (show ∀ p, aw = some p → p.block ≠ gg from fun p hp => by have h1 := Fw.out p hp; have h2 := Qg.out; omega)
  clear Fw Qg
  have Qg := Lib.hid Kg.out.lt
  go_wp2_with fail
  refine (sn_cf a3 c3 _ R3.out).mono ?_
  rintro e w8 ⟨⟨a4, c4, rfl, hr, hf⟩, hb⟩
  have Z4 := Lib.hid hr
  have F4 := Lib.hid hf
  replace Kg := Lib.hid (Kg.out.below hb Kg.out.lt)
  replace Kp := Lib.hid (Kp.out.below hb Kp.out.lt)
  replace Ka := Lib.hid (Ka.out.below hb Ka.out.lt)
  replace Kb := Lib.hid (Kb.out.below hb Kb.out.lt)
  replace R3 := Lib.hid (R3.out.mono hb)
  replace Rw := Lib.hid (Rw.out.mono hb)
  replace B := Lib.hid (B.out.trans (hb.mono B.out.size))
  clear bgc0 bgc1 bgc2 bpc0 bpc1 bac0 bac1 bac2 bac3 bbc0 bbc1 bbc2 bbc3
  clear hb hr hf
  obtain ⟨bgc0, bgc1, bgc2⟩ := three Kg.out
  obtain ⟨bpc0, bpc1⟩ := twob Kp.out
  obtain ⟨bac0, bac1, bac2, bac3⟩ := LCa.out _ _ Ka.out
  obtain ⟨bbc0, bbc1, bbc2, bbc3⟩ := LCb.out _ _ Kb.out
  have R4 := Z4
  clear Z4
  have E4g := Lib.hid (show ∀ p, a4 = some p → p.block ≠ gg from fun p hp => by have h1 := F4.out p hp; have h2 := Qg.out; omega)
  clear F4 Qg
  clear R3
  clear E3g
  clear bgc0 bgc1 bgc2 bpc0 bpc1 bac0 bac1 bac2 bac3 bbc0 bbc1 bbc2 bbc3
  obtain ⟨bgc0, bgc1, bgc2⟩ := three Kg.out
  obtain ⟨bpc0, bpc1⟩ := twob Kp.out
  obtain ⟨bac0, bac1, bac2, bac3⟩ := LCa.out _ _ Ka.out
  obtain ⟨bbc0, bbc1, bbc2, bbc3⟩ := LCb.out _ _ Kb.out
  have fzg := fun q => Kg.out.frozen q
  replace Kg := Lib.hid (show Blk (w8.setCell ⟨gg, 0, none⟩ (.int .i64 1)) (gg) 24 #[.int .i64 1, .int .i64 1000, .slice a3 s2.length c3] from Kg.out.set_ 0 (.int .i64 1))
  replace Kp := Lib.hid (show Blk (w8.setCell ⟨gg, 0, none⟩ (.int .i64 1)) (gp) _ _ from Kp.out.far (p := ⟨gg, 0, none⟩) (by first | (have := Npg.out; show gp ≠ gg; omega) | (have := Ngp.out; show gp ≠ gg; omega)) (.int .i64 1))
  replace Ka := Lib.hid (show Blk (w8.setCell ⟨gg, 0, none⟩ (.int .i64 1)) (ga) _ _ from Ka.out.far (p := ⟨gg, 0, none⟩) (by first | (have := Nag.out; show ga ≠ gg; omega) | (have := Nga.out; show ga ≠ gg; omega)) (.int .i64 1))
  replace Kb := Lib.hid (show Blk (w8.setCell ⟨gg, 0, none⟩ (.int .i64 1)) (gb) _ _ from Kb.out.far (p := ⟨gg, 0, none⟩) (by first | (have := Nbg.out; show gb ≠ gg; omega) | (have := Ngb.out; show gb ≠ gg; omega)) (.int .i64 1))
  replace Rw := Lib.hid (IntsA.far Rw.out (p := ⟨gg, 0, none⟩) Ewg.out (.int .i64 1))
  replace R4 := Lib.hid (RowsA.far R4.out (p := ⟨gg, 0, none⟩) E4g.out (.int .i64 1))
  replace B := Lib.hid (show Below w.heap.size w (w8.setCell ⟨gg, 0, none⟩ (.int .i64 1)) from B.out.setCell (p := ⟨gg, 0, none⟩) Lg.out (.int .i64 1))
  replace Kg := Lib.hid (show Blk ((w8.setCell ⟨gg, 0, none⟩ (.int .i64 1)).setCell ⟨gg, 1, none⟩ (.int .i64 1000)) (gg) 24 #[.int .i64 1, .int .i64 1000, .slice a3 s2.length c3] from Kg.out.set_ 1 (.int .i64 1000))
  replace Kp := Lib.hid (show Blk ((w8.setCell ⟨gg, 0, none⟩ (.int .i64 1)).setCell ⟨gg, 1, none⟩ (.int .i64 1000)) (gp) _ _ from Kp.out.far (p := ⟨gg, 1, none⟩) (by first | (have := Npg.out; show gp ≠ gg; omega) | (have := Ngp.out; show gp ≠ gg; omega)) (.int .i64 1000))
  replace Ka := Lib.hid (show Blk ((w8.setCell ⟨gg, 0, none⟩ (.int .i64 1)).setCell ⟨gg, 1, none⟩ (.int .i64 1000)) (ga) _ _ from Ka.out.far (p := ⟨gg, 1, none⟩) (by first | (have := Nag.out; show ga ≠ gg; omega) | (have := Nga.out; show ga ≠ gg; omega)) (.int .i64 1000))
  replace Kb := Lib.hid (show Blk ((w8.setCell ⟨gg, 0, none⟩ (.int .i64 1)).setCell ⟨gg, 1, none⟩ (.int .i64 1000)) (gb) _ _ from Kb.out.far (p := ⟨gg, 1, none⟩) (by first | (have := Nbg.out; show gb ≠ gg; omega) | (have := Ngb.out; show gb ≠ gg; omega)) (.int .i64 1000))
  replace Rw := Lib.hid (IntsA.far Rw.out (p := ⟨gg, 1, none⟩) Ewg.out (.int .i64 1000))
  replace R4 := Lib.hid (RowsA.far R4.out (p := ⟨gg, 1, none⟩) E4g.out (.int .i64 1000))
  replace B := Lib.hid (show Below w.heap.size w ((w8.setCell ⟨gg, 0, none⟩ (.int .i64 1)).setCell ⟨gg, 1, none⟩ (.int .i64 1000)) from B.out.setCell (p := ⟨gg, 1, none⟩) Lg.out (.int .i64 1000))
  replace Kg := Lib.hid (show Blk (((w8.setCell ⟨gg, 0, none⟩ (.int .i64 1)).setCell ⟨gg, 1, none⟩ (.int .i64 1000)).setCell ⟨gg, 2, none⟩ (.slice a4 s3.length c4)) (gg) 24 #[.int .i64 1, .int .i64 1000, .slice a4 s3.length c4] from Kg.out.set_ 2 (.slice a4 s3.length c4))
  replace Kp := Lib.hid (show Blk (((w8.setCell ⟨gg, 0, none⟩ (.int .i64 1)).setCell ⟨gg, 1, none⟩ (.int .i64 1000)).setCell ⟨gg, 2, none⟩ (.slice a4 s3.length c4)) (gp) _ _ from Kp.out.far (p := ⟨gg, 2, none⟩) (by first | (have := Npg.out; show gp ≠ gg; omega) | (have := Ngp.out; show gp ≠ gg; omega)) (.slice a4 s3.length c4))
  replace Ka := Lib.hid (show Blk (((w8.setCell ⟨gg, 0, none⟩ (.int .i64 1)).setCell ⟨gg, 1, none⟩ (.int .i64 1000)).setCell ⟨gg, 2, none⟩ (.slice a4 s3.length c4)) (ga) _ _ from Ka.out.far (p := ⟨gg, 2, none⟩) (by first | (have := Nag.out; show ga ≠ gg; omega) | (have := Nga.out; show ga ≠ gg; omega)) (.slice a4 s3.length c4))
  replace Kb := Lib.hid (show Blk (((w8.setCell ⟨gg, 0, none⟩ (.int .i64 1)).setCell ⟨gg, 1, none⟩ (.int .i64 1000)).setCell ⟨gg, 2, none⟩ (.slice a4 s3.length c4)) (gb) _ _ from Kb.out.far (p := ⟨gg, 2, none⟩) (by first | (have := Nbg.out; show gb ≠ gg; omega) | (have := Ngb.out; show gb ≠ gg; omega)) (.slice a4 s3.length c4))
  replace Rw := Lib.hid (IntsA.far Rw.out (p := ⟨gg, 2, none⟩) Ewg.out (.slice a4 s3.length c4))
  replace R4 := Lib.hid (RowsA.far R4.out (p := ⟨gg, 2, none⟩) E4g.out (.slice a4 s3.length c4))
  replace B := Lib.hid (show Below w.heap.size w (((w8.setCell ⟨gg, 0, none⟩ (.int .i64 1)).setCell ⟨gg, 1, none⟩ (.int .i64 1000)).setCell ⟨gg, 2, none⟩ (.slice a4 s3.length c4)) from B.out.setCell (p := ⟨gg, 2, none⟩) Lg.out (.slice a4 s3.length c4))
  go_upto_region 9 with (fail)
  generalize hw : (((w8.setCell ⟨gg, 0, none⟩ (.int .i64 1)).setCell ⟨gg, 1, none⟩ (.int .i64 1000)).setCell ⟨gg, 2, none⟩ (.slice a4 s3.length c4)) = w9 at Kg Kp Ka Kb Rw R4 B ⊢
  clear bgc0 bgc1 bgc2 bpc0 bpc1 bac0 bac1 bac2 bac3 bbc0 bbc1 bbc2 bbc3 fzg
  clear hw
  obtain ⟨bgc0, bgc1, bgc2⟩ := three Kg.out
  obtain ⟨bpc0, bpc1⟩ := twob Kp.out
  obtain ⟨bac0, bac1, bac2, bac3⟩ := LCa.out _ _ Ka.out
  obtain ⟨bbc0, bbc1, bbc2, bbc3⟩ := LCb.out _ _ Kb.out
  go_wp2_with (fail)
  refine (sn_d2 a4 c4 _ R4.out).mono ?_
  rintro e w10 ⟨rfl, hb⟩
  replace Kg := Lib.hid (Kg.out.below hb Kg.out.lt)
  replace Kp := Lib.hid (Kp.out.below hb Kp.out.lt)
  replace Ka := Lib.hid (Ka.out.below hb Ka.out.lt)
  replace Kb := Lib.hid (Kb.out.below hb Kb.out.lt)
  replace Rw := Lib.hid (Rw.out.mono hb)
  replace R4 := Lib.hid (R4.out.mono hb)
  replace B := Lib.hid (B.out.trans (hb.mono B.out.size))
  clear bgc0 bgc1 bgc2 bpc0 bpc1 bac0 bac1 bac2 bac3 bbc0 bbc1 bbc2 bbc3
  clear hb
  obtain ⟨bgc0, bgc1, bgc2⟩ := three Kg.out
  obtain ⟨bpc0, bpc1⟩ := twob Kp.out
  obtain ⟨bac0, bac1, bac2, bac3⟩ := LCa.out _ _ Ka.out
  obtain ⟨bbc0, bbc1, bbc2, bbc3⟩ := LCb.out _ _ Kb.out
  clear bgc0 bgc1 bgc2 bpc0 bpc1 bac0 bac1 bac2 bac3 bbc0 bbc1 bbc2 bbc3
  go_upto_region 10 with (fail)
  clear E4g Ewg
  go_cut [18] from 69 to 76 (fun u18 wx => u18 = .int .i64 4 ∧ Hid (Below w10.heap.size w10 wx))
  case first =>
    refine Ph.start (S := Till 3 (fun _ => True) (fun W => Below w10.heap.size w10 W)) (by kernel_rfl) (Till.low trivial (Below.refl _ _).drew) (fun _ => ?_)
    have BD := Lib.hid (Below.refl w10.heap.size w10).drew
    generalize w10.drew = vc1 at BD ⊢
    refine Ph.takeU (i := 0) (v := .agg #[.int .i64 1, .int .i64 1000, .slice a4 s3.length c4]) rfl (Or.inl ⟨by rfl, fun W hW => exec_load_row 24 _ rfl (gg) rfl 24 #[.int .i64 1, .int .i64 1000, .slice a4 s3.length c4] (0, 0) _ (Kg.out.below hW Kg.out.lt) Tryd.underlying24 rfl (big_grants _ _ _ _ _).info⟩) (Till.low trivial BD.out) ?_
    refine Ph.takeU (i := 2) (v := .agg #[.int .i64 100, .int .i64 110]) rfl (Or.inl ⟨by rfl, fun W hW => exec_load_row 28 _ rfl (gp) rfl 28 #[.int .i64 100, .int .i64 110] (0, 0) _ (Kp.out.below hW Kp.out.lt) Tryd.underlying28 rfl (big_per _ _).info⟩) (Till.low trivial BD.out) ?_
    (try simp only [Act.put, nA, nB, nC, nD, nE, nF])
    refine Ph.ready (rs := [1, 8, 9]) (by kernel_rfl) (by simp) (All.cons rfl (fun K hK => ?_) (All.cons rfl (fun K hK => ?_) (All.cons rfl (fun K hK => ?_) (All.nil))))
    · go_simp
      refine (sn_key _).mono ?_
      rintro e vc2 ⟨rfl, hb⟩
      replace BD := Lib.hid (bt BD.out hb)
      clear hb
      go_wp2_with fail
      refine hK _ _ (Till.low trivial BD.out) (fun _ => ?_)
      clear hK K
      (try simp only [Act.put, nA, nB, nC, nD, nE, nF])
      refine Ph.ready (rs := [3, 8, 9]) (by kernel_rfl) (by simp) (All.cons rfl (fun K hK => ?_) (All.cons rfl (fun K hK => ?_) (All.cons rfl (fun K hK => ?_) (All.nil))))
      · go_simp
        refine (sn_g3 a4 c4 _ (R4.out.mono BD.out)).mono ?_
        rintro e vc3 ⟨rfl, hb⟩
        replace BD := Lib.hid (bt BD.out hb)
        clear hb
        go_wp2_with fail
        refine hK _ _ (Till.high (by rfl) BD.out) (fun _ => ?_)
        clear hK K
        refine Ph.takeP (i := 4) (v := .tuple #[.agg #[.int .i64 0, .int .i64 0, .slice none 0 0], .agg leaseZ, .int .i64 4]) rfl (fun W => by go_simp) (Till.high (by rfl) BD.out) ?_
        refine Ph.takeP (i := 5) (v := .agg #[.int .i64 0, .int .i64 0, .slice none 0 0]) rfl (fun W => by go_simp) (Till.high (by rfl) BD.out) ?_
        refine Ph.takeP (i := 6) (v := .agg leaseZ) rfl (fun W => by go_simp) (Till.high (by rfl) BD.out) ?_
        refine Ph.takeP (i := 7) (v := .int .i64 4) rfl (fun W => by go_simp) (Till.high (by rfl) BD.out) ?_
        (try simp only [Act.put, nA, nB, nC, nD, nE, nF])
        refine Ph.ready (rs := [8, 9]) (by kernel_rfl) (by simp) (All.cons rfl (fun K hK => ?_) (All.cons rfl (fun K hK => ?_) (All.nil)))
        · go_simp
          obtain ⟨gm, hgm⟩ : ∃ G, vc3.heap.size = G := ⟨_, rfl⟩
          have Lm := Lib.hid (show w10.heap.size ≤ gm from by rw [← hgm]; exact BD.out.size)
          obtain ⟨vc4, hw2, Km, BD⟩ : ∃ X, vc3.alloc (.cells #[.int .i64 0, .int .i64 0, .slice none 0 0] 24) = X ∧ Hid (Blk X gm 24 #[.int .i64 0, .int .i64 0, .slice none 0 0]) ∧ Hid (Below w10.heap.size w10 X) := ⟨_, rfl, Lib.hid (Blk.new' _ _ _ _ hgm rfl), Lib.hid (BD.out.alloc BD.out.size _)⟩
          try rw [hgm]
          rw [hw2]
          clear hw2 hgm
          refine hK _ _ (Till.high (by rfl) BD.out) (fun _ => ?_)
          clear hK K
          (try simp only [Act.put, nA, nB, nC, nD, nE, nF])
          refine Ph.ready (rs := [9]) (by kernel_rfl) (by simp) (All.cons rfl (fun K hK => ?_) (All.nil))
          go_simp
          obtain ⟨gn, hgn⟩ : ∃ G, vc4.heap.size = G := ⟨_, rfl⟩
          have Ln := Lib.hid (show w10.heap.size ≤ gn from by rw [← hgn]; exact BD.out.size)
          have Nmn := Lib.hid (show gm < gn from by rw [← hgn]; exact Km.out.lt)
          obtain ⟨vc5, hw2, Kn, Km, BD⟩ : ∃ X, vc4.alloc (.cells leaseZ 38) = X ∧ Hid (Blk X gn 38 leaseZ) ∧ Hid (Blk X (gm) 24 #[.int .i64 0, .int .i64 0, .slice none 0 0]) ∧ Hid (Below w10.heap.size w10 X) := ⟨_, rfl, Lib.hid (Blk.new' _ _ _ _ hgn rfl), Lib.hid (Km.out.alloc _), Lib.hid (BD.out.alloc BD.out.size _)⟩
          try rw [hgn]
          rw [hw2]
          clear hw2 hgn
          refine hK _ _ (Till.high (by rfl) BD.out) (fun _ => ?_)
          clear hK K
          (try simp only [Act.put, nA, nB, nC, nD, nE, nF])
          refine Ph.ready (rs := [10]) (by kernel_rfl) (by simp) (All.cons rfl (fun K hK => ?_) (All.nil))
          rw [if_pos (by rfl)]
          refine wp_store_row 24 _ _ rfl (gm) 24 #[.int .i64 0, .int .i64 0, .slice none 0 0] #[.int .i64 0, .int .i64 0, .slice none 0 0] rfl rfl (Blk.hs Km.out) (big_grants _ _ _ _ _).info ((big_grants _ _ _ _ _).same (big_grants _ _ _ _ _)) (big_grants _ _ _ _ _).one rfl ?_
          replace Km := Lib.hid (Km.out.row_ #[.int .i64 0, .int .i64 0, .slice none 0 0])
          replace Kn := Lib.hid (Kn.out.rowfar (show gn ≠ gm by have := Nmn.out; omega) #[.int .i64 0, .int .i64 0, .slice none 0 0])
          replace BD := Lib.hid (below_setRow BD.out Lm.out #[.int .i64 0, .int .i64 0, .slice none 0 0])
          generalize hw2 : (vc5.setRow (gm) #[.int .i64 0, .int .i64 0, .slice none 0 0]) = vc6 at Km Kn BD ⊢
          clear hw2
          refine hK _ _ (Till.high (by rfl) BD.out) (fun _ => ?_)
          clear hK K
          (try simp only [Act.put, nA, nB, nC, nD, nE, nF])
          refine Ph.ready (rs := [11]) (by kernel_rfl) (by simp) (All.cons rfl (fun K hK => ?_) (All.nil))
          rw [if_pos (by rfl)]
          refine wp_store_row 38 _ _ rfl (gn) 38 leaseZ leaseZ rfl rfl (Blk.hs Kn.out) big_leaseZ.info (big_leaseZ.same big_leaseZ) big_leaseZ.one rfl ?_
          replace Kn := Lib.hid (Kn.out.row_ leaseZ)
          replace Km := Lib.hid (Km.out.rowfar (show gm ≠ gn by have := Nmn.out; omega) leaseZ)
          replace BD := Lib.hid (below_setRow BD.out Ln.out leaseZ)
          generalize hw2 : (vc6.setRow (gn) leaseZ) = vc7 at Km Kn BD ⊢
          clear hw2
          refine hK _ _ (Till.high (by rfl) BD.out) (fun _ => ?_)
          clear hK K
          refine Ph.takeP (i := 12) (v := .int .i64 4) rfl (fun W => by go_simp) (Till.high (by rfl) BD.out) ?_
          (try simp only [Act.put, nA, nB, nC, nD, nE, nF])
          refine Ph.done (by kernel_rfl) ?_ _
          go_wp2_with fail
          go_meet
          exact ⟨rfl, BD⟩
        · go_simp
          obtain ⟨gn, hgn⟩ : ∃ G, vc3.heap.size = G := ⟨_, rfl⟩
          have Ln := Lib.hid (show w10.heap.size ≤ gn from by rw [← hgn]; exact BD.out.size)
          obtain ⟨vc8, hw2, Kn, BD⟩ : ∃ X, vc3.alloc (.cells leaseZ 38) = X ∧ Hid (Blk X gn 38 leaseZ) ∧ Hid (Below w10.heap.size w10 X) := ⟨_, rfl, Lib.hid (Blk.new' _ _ _ _ hgn rfl), Lib.hid (BD.out.alloc BD.out.size _)⟩
          try rw [hgn]
          rw [hw2]
          clear hw2 hgn
          refine hK _ _ (Till.high (by rfl) BD.out) (fun _ => ?_)
          clear hK K
          (try simp only [Act.put, nA, nB, nC, nD, nE, nF])
          refine Ph.ready (rs := [8]) (by kernel_rfl) (by simp) (All.cons rfl (fun K hK => ?_) (All.nil))
          go_simp
          obtain ⟨gm, hgm⟩ : ∃ G, vc8.heap.size = G := ⟨_, rfl⟩
          have Lm := Lib.hid (show w10.heap.size ≤ gm from by rw [← hgm]; exact BD.out.size)
          have Nnm := Lib.hid (show gn < gm from by rw [← hgm]; exact Kn.out.lt)
          obtain ⟨vc9, hw2, Km, Kn, BD⟩ : ∃ X, vc8.alloc (.cells #[.int .i64 0, .int .i64 0, .slice none 0 0] 24) = X ∧ Hid (Blk X gm 24 #[.int .i64 0, .int .i64 0, .slice none 0 0]) ∧ Hid (Blk X (gn) 38 leaseZ) ∧ Hid (Below w10.heap.size w10 X) := ⟨_, rfl, Lib.hid (Blk.new' _ _ _ _ hgm rfl), Lib.hid (Kn.out.alloc _), Lib.hid (BD.out.alloc BD.out.size _)⟩
          try rw [hgm]
          rw [hw2]
          clear hw2 hgm
          refine hK _ _ (Till.high (by rfl) BD.out) (fun _ => ?_)
          clear hK K
          (try simp only [Act.put, nA, nB, nC, nD, nE, nF])
          refine Ph.ready (rs := [10]) (by kernel_rfl) (by simp) (All.cons rfl (fun K hK => ?_) (All.nil))
          rw [if_pos (by rfl)]
          refine wp_store_row 24 _ _ rfl (gm) 24 #[.int .i64 0, .int .i64 0, .slice none 0 0] #[.int .i64 0, .int .i64 0, .slice none 0 0] rfl rfl (Blk.hs Km.out) (big_grants _ _ _ _ _).info ((big_grants _ _ _ _ _).same (big_grants _ _ _ _ _)) (big_grants _ _ _ _ _).one rfl ?_
          replace Km := Lib.hid (Km.out.row_ #[.int .i64 0, .int .i64 0, .slice none 0 0])
          replace Kn := Lib.hid (Kn.out.rowfar (show gn ≠ gm by have := Nnm.out; omega) #[.int .i64 0, .int .i64 0, .slice none 0 0])
          replace BD := Lib.hid (below_setRow BD.out Lm.out #[.int .i64 0, .int .i64 0, .slice none 0 0])
          generalize hw2 : (vc9.setRow (gm) #[.int .i64 0, .int .i64 0, .slice none 0 0]) = vc10 at Kn Km BD ⊢
          clear hw2
          refine hK _ _ (Till.high (by rfl) BD.out) (fun _ => ?_)
          clear hK K
          (try simp only [Act.put, nA, nB, nC, nD, nE, nF])
          refine Ph.ready (rs := [11]) (by kernel_rfl) (by simp) (All.cons rfl (fun K hK => ?_) (All.nil))
          rw [if_pos (by rfl)]
          refine wp_store_row 38 _ _ rfl (gn) 38 leaseZ leaseZ rfl rfl (Blk.hs Kn.out) big_leaseZ.info (big_leaseZ.same big_leaseZ) big_leaseZ.one rfl ?_
          replace Kn := Lib.hid (Kn.out.row_ leaseZ)
          replace Km := Lib.hid (Km.out.rowfar (show gm ≠ gn by have := Nnm.out; omega) leaseZ)
          replace BD := Lib.hid (below_setRow BD.out Ln.out leaseZ)
          generalize hw2 : (vc10.setRow (gn) leaseZ) = vc11 at Kn Km BD ⊢
          clear hw2
          refine hK _ _ (Till.high (by rfl) BD.out) (fun _ => ?_)
          clear hK K
          refine Ph.takeP (i := 12) (v := .int .i64 4) rfl (fun W => by go_simp) (Till.high (by rfl) BD.out) ?_
          (try simp only [Act.put, nA, nB, nC, nD, nE, nF])
          refine Ph.done (by kernel_rfl) ?_ _
          go_wp2_with fail
          go_meet
          exact ⟨rfl, BD⟩
      · go_simp
        obtain ⟨gm, hgm⟩ : ∃ G, vc2.heap.size = G := ⟨_, rfl⟩
        have Lm := Lib.hid (show w10.heap.size ≤ gm from by rw [← hgm]; exact BD.out.size)
        obtain ⟨vc12, hw2, Km, BD⟩ : ∃ X, vc2.alloc (.cells #[.int .i64 0, .int .i64 0, .slice none 0 0] 24) = X ∧ Hid (Blk X gm 24 #[.int .i64 0, .int .i64 0, .slice none 0 0]) ∧ Hid (Below w10.heap.size w10 X) := ⟨_, rfl, Lib.hid (Blk.new' _ _ _ _ hgm rfl), Lib.hid (BD.out.alloc BD.out.size _)⟩
        try rw [hgm]
        rw [hw2]
        clear hw2 hgm
        refine hK _ _ (Till.low trivial BD.out) (fun _ => ?_)
        clear hK K
        (try simp only [Act.put, nA, nB, nC, nD, nE, nF])
        refine Ph.ready (rs := [3, 9]) (by kernel_rfl) (by simp) (All.cons rfl (fun K hK => ?_) (All.cons rfl (fun K hK => ?_) (All.nil)))
        · go_simp
          refine (sn_g3 a4 c4 _ (R4.out.mono BD.out)).mono ?_
          rintro e vc13 ⟨rfl, hb⟩
          replace Km := Lib.hid (Km.out.below hb Km.out.lt)
          replace BD := Lib.hid (bt BD.out hb)
          clear hb
          go_wp2_with fail
          refine hK _ _ (Till.high (by rfl) BD.out) (fun _ => ?_)
          clear hK K
          refine Ph.takeP (i := 4) (v := .tuple #[.agg #[.int .i64 0, .int .i64 0, .slice none 0 0], .agg leaseZ, .int .i64 4]) rfl (fun W => by go_simp) (Till.high (by rfl) BD.out) ?_
          refine Ph.takeP (i := 5) (v := .agg #[.int .i64 0, .int .i64 0, .slice none 0 0]) rfl (fun W => by go_simp) (Till.high (by rfl) BD.out) ?_
          refine Ph.takeP (i := 6) (v := .agg leaseZ) rfl (fun W => by go_simp) (Till.high (by rfl) BD.out) ?_
          refine Ph.takeP (i := 7) (v := .int .i64 4) rfl (fun W => by go_simp) (Till.high (by rfl) BD.out) ?_
          (try simp only [Act.put, nA, nB, nC, nD, nE, nF])
          refine Ph.ready (rs := [9]) (by kernel_rfl) (by simp) (All.cons rfl (fun K hK => ?_) (All.nil))
          go_simp
          obtain ⟨gn, hgn⟩ : ∃ G, vc13.heap.size = G := ⟨_, rfl⟩
          have Ln := Lib.hid (show w10.heap.size ≤ gn from by rw [← hgn]; exact BD.out.size)
          have Nmn := Lib.hid (show gm < gn from by rw [← hgn]; exact Km.out.lt)
          obtain ⟨vc14, hw2, Kn, Km, BD⟩ : ∃ X, vc13.alloc (.cells leaseZ 38) = X ∧ Hid (Blk X gn 38 leaseZ) ∧ Hid (Blk X (gm) 24 #[.int .i64 0, .int .i64 0, .slice none 0 0]) ∧ Hid (Below w10.heap.size w10 X) := ⟨_, rfl, Lib.hid (Blk.new' _ _ _ _ hgn rfl), Lib.hid (Km.out.alloc _), Lib.hid (BD.out.alloc BD.out.size _)⟩
          try rw [hgn]
          rw [hw2]
          clear hw2 hgn
          refine hK _ _ (Till.high (by rfl) BD.out) (fun _ => ?_)
          clear hK K
          (try simp only [Act.put, nA, nB, nC, nD, nE, nF])
          refine Ph.ready (rs := [10]) (by kernel_rfl) (by simp) (All.cons rfl (fun K hK => ?_) (All.nil))
          rw [if_pos (by rfl)]
          refine wp_store_row 24 _ _ rfl (gm) 24 #[.int .i64 0, .int .i64 0, .slice none 0 0] #[.int .i64 0, .int .i64 0, .slice none 0 0] rfl rfl (Blk.hs Km.out) (big_grants _ _ _ _ _).info ((big_grants _ _ _ _ _).same (big_grants _ _ _ _ _)) (big_grants _ _ _ _ _).one rfl ?_
          replace Km := Lib.hid (Km.out.row_ #[.int .i64 0, .int .i64 0, .slice none 0 0])
          replace Kn := Lib.hid (Kn.out.rowfar (show gn ≠ gm by have := Nmn.out; omega) #[.int .i64 0, .int .i64 0, .slice none 0 0])
          replace BD := Lib.hid (below_setRow BD.out Lm.out #[.int .i64 0, .int .i64 0, .slice none 0 0])
          generalize hw2 : (vc14.setRow (gm) #[.int .i64 0, .int .i64 0, .slice none 0 0]) = vc15 at Km Kn BD ⊢
          clear hw2
          refine hK _ _ (Till.high (by rfl) BD.out) (fun _ => ?_)
          clear hK K
          (try simp only [Act.put, nA, nB, nC, nD, nE, nF])
          refine Ph.ready (rs := [11]) (by kernel_rfl) (by simp) (All.cons rfl (fun K hK => ?_) (All.nil))
          rw [if_pos (by rfl)]
          refine wp_store_row 38 _ _ rfl (gn) 38 leaseZ leaseZ rfl rfl (Blk.hs Kn.out) big_leaseZ.info (big_leaseZ.same big_leaseZ) big_leaseZ.one rfl ?_
          replace Kn := Lib.hid (Kn.out.row_ leaseZ)
          replace Km := Lib.hid (Km.out.rowfar (show gm ≠ gn by have := Nmn.out; omega) leaseZ)
          replace BD := Lib.hid (below_setRow BD.out Ln.out leaseZ)
          generalize hw2 : (vc15.setRow (gn) leaseZ) = vc16 at Km Kn BD ⊢
          clear hw2
          refine hK _ _ (Till.high (by rfl) BD.out) (fun _ => ?_)
          clear hK K
          refine Ph.takeP (i := 12) (v := .int .i64 4) rfl (fun W => by go_simp) (Till.high (by rfl) BD.out) ?_
          (try simp only [Act.put, nA, nB, nC, nD, nE, nF])
          refine Ph.done (by kernel_rfl) ?_ _
          go_wp2_with fail
          go_meet
          exact ⟨rfl, BD⟩
        · go_simp
          obtain ⟨gn, hgn⟩ : ∃ G, vc12.heap.size = G := ⟨_, rfl⟩
          have Ln := Lib.hid (show w10.heap.size ≤ gn from by rw [← hgn]; exact BD.out.size)
          have Nmn := Lib.hid (show gm < gn from by rw [← hgn]; exact Km.out.lt)
          obtain ⟨vc17, hw2, Kn, Km, BD⟩ : ∃ X, vc12.alloc (.cells leaseZ 38) = X ∧ Hid (Blk X gn 38 leaseZ) ∧ Hid (Blk X (gm) 24 #[.int .i64 0, .int .i64 0, .slice none 0 0]) ∧ Hid (Below w10.heap.size w10 X) := ⟨_, rfl, Lib.hid (Blk.new' _ _ _ _ hgn rfl), Lib.hid (Km.out.alloc _), Lib.hid (BD.out.alloc BD.out.size _)⟩
          try rw [hgn]
          rw [hw2]
          clear hw2 hgn
          refine hK _ _ (Till.low trivial BD.out) (fun _ => ?_)
          clear hK K
          (try simp only [Act.put, nA, nB, nC, nD, nE, nF])
          refine Ph.ready (rs := [3]) (by kernel_rfl) (by simp) (All.cons rfl (fun K hK => ?_) (All.nil))
          go_simp
          refine (sn_g3 a4 c4 _ (R4.out.mono BD.out)).mono ?_
          rintro e vc18 ⟨rfl, hb⟩
          replace Km := Lib.hid (Km.out.below hb Km.out.lt)
          replace Kn := Lib.hid (Kn.out.below hb Kn.out.lt)
          replace BD := Lib.hid (bt BD.out hb)
          clear hb
          go_wp2_with fail
          refine hK _ _ (Till.high (by rfl) BD.out) (fun _ => ?_)
          clear hK K
          refine Ph.takeP (i := 4) (v := .tuple #[.agg #[.int .i64 0, .int .i64 0, .slice none 0 0], .agg leaseZ, .int .i64 4]) rfl (fun W => by go_simp) (Till.high (by rfl) BD.out) ?_
          refine Ph.takeP (i := 5) (v := .agg #[.int .i64 0, .int .i64 0, .slice none 0 0]) rfl (fun W => by go_simp) (Till.high (by rfl) BD.out) ?_
          refine Ph.takeP (i := 6) (v := .agg leaseZ) rfl (fun W => by go_simp) (Till.high (by rfl) BD.out) ?_
          refine Ph.takeP (i := 7) (v := .int .i64 4) rfl (fun W => by go_simp) (Till.high (by rfl) BD.out) ?_
          (try simp only [Act.put, nA, nB, nC, nD, nE, nF])
          refine Ph.ready (rs := [10]) (by kernel_rfl) (by simp) (All.cons rfl (fun K hK => ?_) (All.nil))
          rw [if_pos (by rfl)]
          refine wp_store_row 24 _ _ rfl (gm) 24 #[.int .i64 0, .int .i64 0, .slice none 0 0] #[.int .i64 0, .int .i64 0, .slice none 0 0] rfl rfl (Blk.hs Km.out) (big_grants _ _ _ _ _).info ((big_grants _ _ _ _ _).same (big_grants _ _ _ _ _)) (big_grants _ _ _ _ _).one rfl ?_
          replace Km := Lib.hid (Km.out.row_ #[.int .i64 0, .int .i64 0, .slice none 0 0])
          replace Kn := Lib.hid (Kn.out.rowfar (show gn ≠ gm by have := Nmn.out; omega) #[.int .i64 0, .int .i64 0, .slice none 0 0])
          replace BD := Lib.hid (below_setRow BD.out Lm.out #[.int .i64 0, .int .i64 0, .slice none 0 0])
          generalize hw2 : (vc18.setRow (gm) #[.int .i64 0, .int .i64 0, .slice none 0 0]) = vc19 at Km Kn BD ⊢
          clear hw2
          refine hK _ _ (Till.high (by rfl) BD.out) (fun _ => ?_)
          clear hK K
          (try simp only [Act.put, nA, nB, nC, nD, nE, nF])
          refine Ph.ready (rs := [11]) (by kernel_rfl) (by simp) (All.cons rfl (fun K hK => ?_) (All.nil))
          rw [if_pos (by rfl)]
          refine wp_store_row 38 _ _ rfl (gn) 38 leaseZ leaseZ rfl rfl (Blk.hs Kn.out) big_leaseZ.info (big_leaseZ.same big_leaseZ) big_leaseZ.one rfl ?_
          replace Kn := Lib.hid (Kn.out.row_ leaseZ)
          replace Km := Lib.hid (Km.out.rowfar (show gm ≠ gn by have := Nmn.out; omega) leaseZ)
          replace BD := Lib.hid (below_setRow BD.out Ln.out leaseZ)
          generalize hw2 : (vc19.setRow (gn) leaseZ) = vc20 at Km Kn BD ⊢
          clear hw2
          refine hK _ _ (Till.high (by rfl) BD.out) (fun _ => ?_)
          clear hK K
          refine Ph.takeP (i := 12) (v := .int .i64 4) rfl (fun W => by go_simp) (Till.high (by rfl) BD.out) ?_
          (try simp only [Act.put, nA, nB, nC, nD, nE, nF])
          refine Ph.done (by kernel_rfl) ?_ _
          go_wp2_with fail
          go_meet
          exact ⟨rfl, BD⟩
      · go_simp
        obtain ⟨gn, hgn⟩ : ∃ G, vc2.heap.size = G := ⟨_, rfl⟩
        have Ln := Lib.hid (show w10.heap.size ≤ gn from by rw [← hgn]; exact BD.out.size)
        obtain ⟨vc21, hw2, Kn, BD⟩ : ∃ X, vc2.alloc (.cells leaseZ 38) = X ∧ Hid (Blk X gn 38 leaseZ) ∧ Hid (Below w10.heap.size w10 X) := ⟨_, rfl, Lib.hid (Blk.new' _ _ _ _ hgn rfl), Lib.hid (BD.out.alloc BD.out.size _)⟩
        try rw [hgn]
        rw [hw2]
        clear hw2 hgn
        refine hK _ _ (Till.low trivial BD.out) (fun _ => ?_)
        clear hK K
        (try simp only [Act.put, nA, nB, nC, nD, nE, nF])
        refine Ph.ready (rs := [3, 8]) (by kernel_rfl) (by simp) (All.cons rfl (fun K hK => ?_) (All.cons rfl (fun K hK => ?_) (All.nil)))
        · go_simp
          refine (sn_g3 a4 c4 _ (R4.out.mono BD.out)).mono ?_
          rintro e vc22 ⟨rfl, hb⟩
          replace Kn := Lib.hid (Kn.out.below hb Kn.out.lt)
          replace BD := Lib.hid (bt BD.out hb)
          clear hb
          go_wp2_with fail
          refine hK _ _ (Till.high (by rfl) BD.out) (fun _ => ?_)
          clear hK K
          refine Ph.takeP (i := 4) (v := .tuple #[.agg #[.int .i64 0, .int .i64 0, .slice none 0 0], .agg leaseZ, .int .i64 4]) rfl (fun W => by go_simp) (Till.high (by rfl) BD.out) ?_
          refine Ph.takeP (i := 5) (v := .agg #[.int .i64 0, .int .i64 0, .slice none 0 0]) rfl (fun W => by go_simp) (Till.high (by rfl) BD.out) ?_
          refine Ph.takeP (i := 6) (v := .agg leaseZ) rfl (fun W => by go_simp) (Till.high (by rfl) BD.out) ?_
          refine Ph.takeP (i := 7) (v := .int .i64 4) rfl (fun W => by go_simp) (Till.high (by rfl) BD.out) ?_
          (try simp only [Act.put, nA, nB, nC, nD, nE, nF])
          refine Ph.ready (rs := [8]) (by kernel_rfl) (by simp) (All.cons rfl (fun K hK => ?_) (All.nil))
          go_simp
          obtain ⟨gm, hgm⟩ : ∃ G, vc22.heap.size = G := ⟨_, rfl⟩
          have Lm := Lib.hid (show w10.heap.size ≤ gm from by rw [← hgm]; exact BD.out.size)
          have Nnm := Lib.hid (show gn < gm from by rw [← hgm]; exact Kn.out.lt)
          obtain ⟨vc23, hw2, Km, Kn, BD⟩ : ∃ X, vc22.alloc (.cells #[.int .i64 0, .int .i64 0, .slice none 0 0] 24) = X ∧ Hid (Blk X gm 24 #[.int .i64 0, .int .i64 0, .slice none 0 0]) ∧ Hid (Blk X (gn) 38 leaseZ) ∧ Hid (Below w10.heap.size w10 X) := ⟨_, rfl, Lib.hid (Blk.new' _ _ _ _ hgm rfl), Lib.hid (Kn.out.alloc _), Lib.hid (BD.out.alloc BD.out.size _)⟩
          try rw [hgm]
          rw [hw2]
          clear hw2 hgm
          refine hK _ _ (Till.high (by rfl) BD.out) (fun _ => ?_)
          clear hK K
          (try simp only [Act.put, nA, nB, nC, nD, nE, nF])
          refine Ph.ready (rs := [10]) (by kernel_rfl) (by simp) (All.cons rfl (fun K hK => ?_) (All.nil))
          rw [if_pos (by rfl)]
          refine wp_store_row 24 _ _ rfl (gm) 24 #[.int .i64 0, .int .i64 0, .slice none 0 0] #[.int .i64 0, .int .i64 0, .slice none 0 0] rfl rfl (Blk.hs Km.out) (big_grants _ _ _ _ _).info ((big_grants _ _ _ _ _).same (big_grants _ _ _ _ _)) (big_grants _ _ _ _ _).one rfl ?_
          replace Km := Lib.hid (Km.out.row_ #[.int .i64 0, .int .i64 0, .slice none 0 0])
          replace Kn := Lib.hid (Kn.out.rowfar (show gn ≠ gm by have := Nnm.out; omega) #[.int .i64 0, .int .i64 0, .slice none 0 0])
          replace BD := Lib.hid (below_setRow BD.out Lm.out #[.int .i64 0, .int .i64 0, .slice none 0 0])
          generalize hw2 : (vc23.setRow (gm) #[.int .i64 0, .int .i64 0, .slice none 0 0]) = vc24 at Kn Km BD ⊢
          clear hw2
          refine hK _ _ (Till.high (by rfl) BD.out) (fun _ => ?_)
          clear hK K
          (try simp only [Act.put, nA, nB, nC, nD, nE, nF])
          refine Ph.ready (rs := [11]) (by kernel_rfl) (by simp) (All.cons rfl (fun K hK => ?_) (All.nil))
          rw [if_pos (by rfl)]
          refine wp_store_row 38 _ _ rfl (gn) 38 leaseZ leaseZ rfl rfl (Blk.hs Kn.out) big_leaseZ.info (big_leaseZ.same big_leaseZ) big_leaseZ.one rfl ?_
          replace Kn := Lib.hid (Kn.out.row_ leaseZ)
          replace Km := Lib.hid (Km.out.rowfar (show gm ≠ gn by have := Nnm.out; omega) leaseZ)
          replace BD := Lib.hid (below_setRow BD.out Ln.out leaseZ)
          generalize hw2 : (vc24.setRow (gn) leaseZ) = vc25 at Kn Km BD ⊢
          clear hw2
          refine hK _ _ (Till.high (by rfl) BD.out) (fun _ => ?_)
          clear hK K
          refine Ph.takeP (i := 12) (v := .int .i64 4) rfl (fun W => by go_simp) (Till.high (by rfl) BD.out) ?_
          (try simp only [Act.put, nA, nB, nC, nD, nE, nF])
          refine Ph.done (by kernel_rfl) ?_ _
          go_wp2_with fail
          go_meet
          exact ⟨rfl, BD⟩
        · go_simp
          obtain ⟨gm, hgm⟩ : ∃ G, vc21.heap.size = G := ⟨_, rfl⟩
          have Lm := Lib.hid (show w10.heap.size ≤ gm from by rw [← hgm]; exact BD.out.size)
          have Nnm := Lib.hid (show gn < gm from by rw [← hgm]; exact Kn.out.lt)
          obtain ⟨vc26, hw2, Km, Kn, BD⟩ : ∃ X, vc21.alloc (.cells #[.int .i64 0, .int .i64 0, .slice none 0 0] 24) = X ∧ Hid (Blk X gm 24 #[.int .i64 0, .int .i64 0, .slice none 0 0]) ∧ Hid (Blk X (gn) 38 leaseZ) ∧ Hid (Below w10.heap.size w10 X) := ⟨_, rfl, Lib.hid (Blk.new' _ _ _ _ hgm rfl), Lib.hid (Kn.out.alloc _), Lib.hid (BD.out.alloc BD.out.size _)⟩
          try rw [hgm]
          rw [hw2]
          clear hw2 hgm
          refine hK _ _ (Till.low trivial BD.out) (fun _ => ?_)
          clear hK K
          (try simp only [Act.put, nA, nB, nC, nD, nE, nF])
          refine Ph.ready (rs := [3]) (by kernel_rfl) (by simp) (All.cons rfl (fun K hK => ?_) (All.nil))
          go_simp
          refine (sn_g3 a4 c4 _ (R4.out.mono BD.out)).mono ?_
          rintro e vc27 ⟨rfl, hb⟩
          replace Kn := Lib.hid (Kn.out.below hb Kn.out.lt)
          replace Km := Lib.hid (Km.out.below hb Km.out.lt)
          replace BD := Lib.hid (bt BD.out hb)
          clear hb
          go_wp2_with fail
          refine hK _ _ (Till.high (by rfl) BD.out) (fun _ => ?_)
          clear hK K
          refine Ph.takeP (i := 4) (v := .tuple #[.agg #[.int .i64 0, .int .i64 0, .slice none 0 0], .agg leaseZ, .int .i64 4]) rfl (fun W => by go_simp) (Till.high (by rfl) BD.out) ?_
          refine Ph.takeP (i := 5) (v := .agg #[.int .i64 0, .int .i64 0, .slice none 0 0]) rfl (fun W => by go_simp) (Till.high (by rfl) BD.out) ?_
          refine Ph.takeP (i := 6) (v := .agg leaseZ) rfl (fun W => by go_simp) (Till.high (by rfl) BD.out) ?_
          refine Ph.takeP (i := 7) (v := .int .i64 4) rfl (fun W => by go_simp) (Till.high (by rfl) BD.out) ?_
          (try simp only [Act.put, nA, nB, nC, nD, nE, nF])
          refine Ph.ready (rs := [10]) (by kernel_rfl) (by simp) (All.cons rfl (fun K hK => ?_) (All.nil))
          rw [if_pos (by rfl)]
          refine wp_store_row 24 _ _ rfl (gm) 24 #[.int .i64 0, .int .i64 0, .slice none 0 0] #[.int .i64 0, .int .i64 0, .slice none 0 0] rfl rfl (Blk.hs Km.out) (big_grants _ _ _ _ _).info ((big_grants _ _ _ _ _).same (big_grants _ _ _ _ _)) (big_grants _ _ _ _ _).one rfl ?_
          replace Km := Lib.hid (Km.out.row_ #[.int .i64 0, .int .i64 0, .slice none 0 0])
          replace Kn := Lib.hid (Kn.out.rowfar (show gn ≠ gm by have := Nnm.out; omega) #[.int .i64 0, .int .i64 0, .slice none 0 0])
          replace BD := Lib.hid (below_setRow BD.out Lm.out #[.int .i64 0, .int .i64 0, .slice none 0 0])
          generalize hw2 : (vc27.setRow (gm) #[.int .i64 0, .int .i64 0, .slice none 0 0]) = vc28 at Kn Km BD ⊢
          clear hw2
          refine hK _ _ (Till.high (by rfl) BD.out) (fun _ => ?_)
          clear hK K
          (try simp only [Act.put, nA, nB, nC, nD, nE, nF])
          refine Ph.ready (rs := [11]) (by kernel_rfl) (by simp) (All.cons rfl (fun K hK => ?_) (All.nil))
          rw [if_pos (by rfl)]
          refine wp_store_row 38 _ _ rfl (gn) 38 leaseZ leaseZ rfl rfl (Blk.hs Kn.out) big_leaseZ.info (big_leaseZ.same big_leaseZ) big_leaseZ.one rfl ?_
          replace Kn := Lib.hid (Kn.out.row_ leaseZ)
          replace Km := Lib.hid (Km.out.rowfar (show gm ≠ gn by have := Nnm.out; omega) leaseZ)
          replace BD := Lib.hid (below_setRow BD.out Ln.out leaseZ)
          generalize hw2 : (vc28.setRow (gn) leaseZ) = vc29 at Kn Km BD ⊢
          clear hw2
          refine hK _ _ (Till.high (by rfl) BD.out) (fun _ => ?_)
          clear hK K
          refine Ph.takeP (i := 12) (v := .int .i64 4) rfl (fun W => by go_simp) (Till.high (by rfl) BD.out) ?_
          (try simp only [Act.put, nA, nB, nC, nD, nE, nF])
          refine Ph.done (by kernel_rfl) ?_ _
          go_wp2_with fail
          go_meet
          exact ⟨rfl, BD⟩
    · go_simp
      obtain ⟨gm, hgm⟩ : ∃ G, vc1.heap.size = G := ⟨_, rfl⟩
      have Lm := Lib.hid (show w10.heap.size ≤ gm from by rw [← hgm]; exact BD.out.size)
      obtain ⟨vc30, hw2, Km, BD⟩ : ∃ X, vc1.alloc (.cells #[.int .i64 0, .int .i64 0, .slice none 0 0] 24) = X ∧ Hid (Blk X gm 24 #[.int .i64 0, .int .i64 0, .slice none 0 0]) ∧ Hid (Below w10.heap.size w10 X) := ⟨_, rfl, Lib.hid (Blk.new' _ _ _ _ hgm rfl), Lib.hid (BD.out.alloc BD.out.size _)⟩
      try rw [hgm]
      rw [hw2]
      clear hw2 hgm
      refine hK _ _ (Till.low trivial BD.out) (fun _ => ?_)
      clear hK K
      (try simp only [Act.put, nA, nB, nC, nD, nE, nF])
      refine Ph.ready (rs := [1, 9]) (by kernel_rfl) (by simp) (All.cons rfl (fun K hK => ?_) (All.cons rfl (fun K hK => ?_) (All.nil)))
      · go_simp
        refine (sn_key _).mono ?_
        rintro e vc31 ⟨rfl, hb⟩
        replace Km := Lib.hid (Km.out.below hb Km.out.lt)
        replace BD := Lib.hid (bt BD.out hb)
        clear hb
        go_wp2_with fail
        refine hK _ _ (Till.low trivial BD.out) (fun _ => ?_)
        clear hK K
        (try simp only [Act.put, nA, nB, nC, nD, nE, nF])
        refine Ph.ready (rs := [3, 9]) (by kernel_rfl) (by simp) (All.cons rfl (fun K hK => ?_) (All.cons rfl (fun K hK => ?_) (All.nil)))
        · go_simp
          refine (sn_g3 a4 c4 _ (R4.out.mono BD.out)).mono ?_
          rintro e vc32 ⟨rfl, hb⟩
          replace Km := Lib.hid (Km.out.below hb Km.out.lt)
          replace BD := Lib.hid (bt BD.out hb)
          clear hb
          go_wp2_with fail
          refine hK _ _ (Till.high (by rfl) BD.out) (fun _ => ?_)
          clear hK K
          refine Ph.takeP (i := 4) (v := .tuple #[.agg #[.int .i64 0, .int .i64 0, .slice none 0 0], .agg leaseZ, .int .i64 4]) rfl (fun W => by go_simp) (Till.high (by rfl) BD.out) ?_
          refine Ph.takeP (i := 5) (v := .agg #[.int .i64 0, .int .i64 0, .slice none 0 0]) rfl (fun W => by go_simp) (Till.high (by rfl) BD.out) ?_
          refine Ph.takeP (i := 6) (v := .agg leaseZ) rfl (fun W => by go_simp) (Till.high (by rfl) BD.out) ?_
          refine Ph.takeP (i := 7) (v := .int .i64 4) rfl (fun W => by go_simp) (Till.high (by rfl) BD.out) ?_
          (try simp only [Act.put, nA, nB, nC, nD, nE, nF])
          refine Ph.ready (rs := [9]) (by kernel_rfl) (by simp) (All.cons rfl (fun K hK => ?_) (All.nil))
          go_simp
          obtain ⟨gn, hgn⟩ : ∃ G, vc32.heap.size = G := ⟨_, rfl⟩
          have Ln := Lib.hid (show w10.heap.size ≤ gn from by rw [← hgn]; exact BD.out.size)
          have Nmn := Lib.hid (show gm < gn from by rw [← hgn]; exact Km.out.lt)
          obtain ⟨vc33, hw2, Kn, Km, BD⟩ : ∃ X, vc32.alloc (.cells leaseZ 38) = X ∧ Hid (Blk X gn 38 leaseZ) ∧ Hid (Blk X (gm) 24 #[.int .i64 0, .int .i64 0, .slice none 0 0]) ∧ Hid (Below w10.heap.size w10 X) := ⟨_, rfl, Lib.hid (Blk.new' _ _ _ _ hgn rfl), Lib.hid (Km.out.alloc _), Lib.hid (BD.out.alloc BD.out.size _)⟩
          try rw [hgn]
          rw [hw2]
          clear hw2 hgn
          refine hK _ _ (Till.high (by rfl) BD.out) (fun _ => ?_)
          clear hK K
          (try simp only [Act.put, nA, nB, nC, nD, nE, nF])
          refine Ph.ready (rs := [10]) (by kernel_rfl) (by simp) (All.cons rfl (fun K hK => ?_) (All.nil))
          rw [if_pos (by rfl)]
          refine wp_store_row 24 _ _ rfl (gm) 24 #[.int .i64 0, .int .i64 0, .slice none 0 0] #[.int .i64 0, .int .i64 0, .slice none 0 0] rfl rfl (Blk.hs Km.out) (big_grants _ _ _ _ _).info ((big_grants _ _ _ _ _).same (big_grants _ _ _ _ _)) (big_grants _ _ _ _ _).one rfl ?_
          replace Km := Lib.hid (Km.out.row_ #[.int .i64 0, .int .i64 0, .slice none 0 0])
          replace Kn := Lib.hid (Kn.out.rowfar (show gn ≠ gm by have := Nmn.out; omega) #[.int .i64 0, .int .i64 0, .slice none 0 0])
          replace BD := Lib.hid (below_setRow BD.out Lm.out #[.int .i64 0, .int .i64 0, .slice none 0 0])
          generalize hw2 : (vc33.setRow (gm) #[.int .i64 0, .int .i64 0, .slice none 0 0]) = vc34 at Km Kn BD ⊢
          clear hw2
          refine hK _ _ (Till.high (by rfl) BD.out) (fun _ => ?_)
          clear hK K
          (try simp only [Act.put, nA, nB, nC, nD, nE, nF])
          refine Ph.ready (rs := [11]) (by kernel_rfl) (by simp) (All.cons rfl (fun K hK => ?_) (All.nil))
          rw [if_pos (by rfl)]
          refine wp_store_row 38 _ _ rfl (gn) 38 leaseZ leaseZ rfl rfl (Blk.hs Kn.out) big_leaseZ.info (big_leaseZ.same big_leaseZ) big_leaseZ.one rfl ?_
          replace Kn := Lib.hid (Kn.out.row_ leaseZ)
          replace Km := Lib.hid (Km.out.rowfar (show gm ≠ gn by have := Nmn.out; omega) leaseZ)
          replace BD := Lib.hid (below_setRow BD.out Ln.out leaseZ)
          generalize hw2 : (vc34.setRow (gn) leaseZ) = vc35 at Km Kn BD ⊢
          clear hw2
          refine hK _ _ (Till.high (by rfl) BD.out) (fun _ => ?_)
          clear hK K
          refine Ph.takeP (i := 12) (v := .int .i64 4) rfl (fun W => by go_simp) (Till.high (by rfl) BD.out) ?_
          (try simp only [Act.put, nA, nB, nC, nD, nE, nF])
          refine Ph.done (by kernel_rfl) ?_ _
          go_wp2_with fail
          go_meet
          exact ⟨rfl, BD⟩
        · go_simp
          obtain ⟨gn, hgn⟩ : ∃ G, vc31.heap.size = G := ⟨_, rfl⟩
          have Ln := Lib.hid (show w10.heap.size ≤ gn from by rw [← hgn]; exact BD.out.size)
          have Nmn := Lib.hid (show gm < gn from by rw [← hgn]; exact Km.out.lt)
          obtain ⟨vc36, hw2, Kn, Km, BD⟩ : ∃ X, vc31.alloc (.cells leaseZ 38) = X ∧ Hid (Blk X gn 38 leaseZ) ∧ Hid (Blk X (gm) 24 #[.int .i64 0, .int .i64 0, .slice none 0 0]) ∧ Hid (Below w10.heap.size w10 X) := ⟨_, rfl, Lib.hid (Blk.new' _ _ _ _ hgn rfl), Lib.hid (Km.out.alloc _), Lib.hid (BD.out.alloc BD.out.size _)⟩
          try rw [hgn]
          rw [hw2]
          clear hw2 hgn
          refine hK _ _ (Till.low trivial BD.out) (fun _ => ?_)
          clear hK K
          (try simp only [Act.put, nA, nB, nC, nD, nE, nF])
          refine Ph.ready (rs := [3]) (by kernel_rfl) (by simp) (All.cons rfl (fun K hK => ?_) (All.nil))
          go_simp
          refine (sn_g3 a4 c4 _ (R4.out.mono BD.out)).mono ?_
          rintro e vc37 ⟨rfl, hb⟩
          replace Km := Lib.hid (Km.out.below hb Km.out.lt)
          replace Kn := Lib.hid (Kn.out.below hb Kn.out.lt)
          replace BD := Lib.hid (bt BD.out hb)
          clear hb
          go_wp2_with fail
          refine hK _ _ (Till.high (by rfl) BD.out) (fun _ => ?_)
          clear hK K
          refine Ph.takeP (i := 4) (v := .tuple #[.agg #[.int .i64 0, .int .i64 0, .slice none 0 0], .agg leaseZ, .int .i64 4]) rfl (fun W => by go_simp) (Till.high (by rfl) BD.out) ?_
          refine Ph.takeP (i := 5) (v := .agg #[.int .i64 0, .int .i64 0, .slice none 0 0]) rfl (fun W => by go_simp) (Till.high (by rfl) BD.out) ?_
          refine Ph.takeP (i := 6) (v := .agg leaseZ) rfl (fun W => by go_simp) (Till.high (by rfl) BD.out) ?_
          refine Ph.takeP (i := 7) (v := .int .i64 4) rfl (fun W => by go_simp) (Till.high (by rfl) BD.out) ?_
          (try simp only [Act.put, nA, nB, nC, nD, nE, nF])
          refine Ph.ready (rs := [10]) (by kernel_rfl) (by simp) (All.cons rfl (fun K hK => ?_) (All.nil))
          rw [if_pos (by rfl)]
          refine wp_store_row 24 _ _ rfl (gm) 24 #[.int .i64 0, .int .i64 0, .slice none 0 0] #[.int .i64 0, .int .i64 0, .slice none 0 0] rfl rfl (Blk.hs Km.out) (big_grants _ _ _ _ _).info ((big_grants _ _ _ _ _).same (big_grants _ _ _ _ _)) (big_grants _ _ _ _ _).one rfl ?_
          replace Km := Lib.hid (Km.out.row_ #[.int .i64 0, .int .i64 0, .slice none 0 0])
          replace Kn := Lib.hid (Kn.out.rowfar (show gn ≠ gm by have := Nmn.out; omega) #[.int .i64 0, .int .i64 0, .slice none 0 0])
          replace BD := Lib.hid (below_setRow BD.out Lm.out #[.int .i64 0, .int .i64 0, .slice none 0 0])
          generalize hw2 : (vc37.setRow (gm) #[.int .i64 0, .int .i64 0, .slice none 0 0]) = vc38 at Km Kn BD ⊢
          clear hw2
          refine hK _ _ (Till.high (by rfl) BD.out) (fun _ => ?_)
          clear hK K
          (try simp only [Act.put, nA, nB, nC, nD, nE, nF])
          refine Ph.ready (rs := [11]) (by kernel_rfl) (by simp) (All.cons rfl (fun K hK => ?_) (All.nil))
          rw [if_pos (by rfl)]
          refine wp_store_row 38 _ _ rfl (gn) 38 leaseZ leaseZ rfl rfl (Blk.hs Kn.out) big_leaseZ.info (big_leaseZ.same big_leaseZ) big_leaseZ.one rfl ?_
          replace Kn := Lib.hid (Kn.out.row_ leaseZ)
          replace Km := Lib.hid (Km.out.rowfar (show gm ≠ gn by have := Nmn.out; omega) leaseZ)
          replace BD := Lib.hid (below_setRow BD.out Ln.out leaseZ)
          generalize hw2 : (vc38.setRow (gn) leaseZ) = vc39 at Km Kn BD ⊢
          clear hw2
          refine hK _ _ (Till.high (by rfl) BD.out) (fun _ => ?_)
          clear hK K
          refine Ph.takeP (i := 12) (v := .int .i64 4) rfl (fun W => by go_simp) (Till.high (by rfl) BD.out) ?_
          (try simp only [Act.put, nA, nB, nC, nD, nE, nF])
          refine Ph.done (by kernel_rfl) ?_ _
          go_wp2_with fail
          go_meet
          exact ⟨rfl, BD⟩
      · go_simp
        obtain ⟨gn, hgn⟩ : ∃ G, vc30.heap.size = G := ⟨_, rfl⟩
        have Ln := Lib.hid (show w10.heap.size ≤ gn from by rw [← hgn]; exact BD.out.size)
        have Nmn := Lib.hid (show gm < gn from by rw [← hgn]; exact Km.out.lt)
        obtain ⟨vc40, hw2, Kn, Km, BD⟩ : ∃ X, vc30.alloc (.cells leaseZ 38) = X ∧ Hid (Blk X gn 38 leaseZ) ∧ Hid (Blk X (gm) 24 #[.int .i64 0, .int .i64 0, .slice none 0 0]) ∧ Hid (Below w10.heap.size w10 X) := ⟨_, rfl, Lib.hid (Blk.new' _ _ _ _ hgn rfl), Lib.hid (Km.out.alloc _), Lib.hid (BD.out.alloc BD.out.size _)⟩
        try rw [hgn]
        rw [hw2]
        clear hw2 hgn
        refine hK _ _ (Till.low trivial BD.out) (fun _ => ?_)
        clear hK K
        (try simp only [Act.put, nA, nB, nC, nD, nE, nF])
        refine Ph.ready (rs := [1]) (by kernel_rfl) (by simp) (All.cons rfl (fun K hK => ?_) (All.nil))
        go_simp
        refine (sn_key _).mono ?_
        rintro e vc41 ⟨rfl, hb⟩
        replace Km := Lib.hid (Km.out.below hb Km.out.lt)
        replace Kn := Lib.hid (Kn.out.below hb Kn.out.lt)
        replace BD := Lib.hid (bt BD.out hb)
        clear hb
        go_wp2_with fail
        refine hK _ _ (Till.low trivial BD.out) (fun _ => ?_)
        clear hK K
        (try simp only [Act.put, nA, nB, nC, nD, nE, nF])
        refine Ph.ready (rs := [3]) (by kernel_rfl) (by simp) (All.cons rfl (fun K hK => ?_) (All.nil))
        go_simp
        refine (sn_g3 a4 c4 _ (R4.out.mono BD.out)).mono ?_
        rintro e vc42 ⟨rfl, hb⟩
        replace Km := Lib.hid (Km.out.below hb Km.out.lt)
        replace Kn := Lib.hid (Kn.out.below hb Kn.out.lt)
        replace BD := Lib.hid (bt BD.out hb)
        clear hb
        go_wp2_with fail
        refine hK _ _ (Till.high (by rfl) BD.out) (fun _ => ?_)
        clear hK K
        refine Ph.takeP (i := 4) (v := .tuple #[.agg #[.int .i64 0, .int .i64 0, .slice none 0 0], .agg leaseZ, .int .i64 4]) rfl (fun W => by go_simp) (Till.high (by rfl) BD.out) ?_
        refine Ph.takeP (i := 5) (v := .agg #[.int .i64 0, .int .i64 0, .slice none 0 0]) rfl (fun W => by go_simp) (Till.high (by rfl) BD.out) ?_
        refine Ph.takeP (i := 6) (v := .agg leaseZ) rfl (fun W => by go_simp) (Till.high (by rfl) BD.out) ?_
        refine Ph.takeP (i := 7) (v := .int .i64 4) rfl (fun W => by go_simp) (Till.high (by rfl) BD.out) ?_
        (try simp only [Act.put, nA, nB, nC, nD, nE, nF])
        refine Ph.ready (rs := [10]) (by kernel_rfl) (by simp) (All.cons rfl (fun K hK => ?_) (All.nil))
        rw [if_pos (by rfl)]
        refine wp_store_row 24 _ _ rfl (gm) 24 #[.int .i64 0, .int .i64 0, .slice none 0 0] #[.int .i64 0, .int .i64 0, .slice none 0 0] rfl rfl (Blk.hs Km.out) (big_grants _ _ _ _ _).info ((big_grants _ _ _ _ _).same (big_grants _ _ _ _ _)) (big_grants _ _ _ _ _).one rfl ?_
        replace Km := Lib.hid (Km.out.row_ #[.int .i64 0, .int .i64 0, .slice none 0 0])
        replace Kn := Lib.hid (Kn.out.rowfar (show gn ≠ gm by have := Nmn.out; omega) #[.int .i64 0, .int .i64 0, .slice none 0 0])
        replace BD := Lib.hid (below_setRow BD.out Lm.out #[.int .i64 0, .int .i64 0, .slice none 0 0])
        generalize hw2 : (vc42.setRow (gm) #[.int .i64 0, .int .i64 0, .slice none 0 0]) = vc43 at Km Kn BD ⊢
        clear hw2
        refine hK _ _ (Till.high (by rfl) BD.out) (fun _ => ?_)
        clear hK K
        (try simp only [Act.put, nA, nB, nC, nD, nE, nF])
        refine Ph.ready (rs := [11]) (by kernel_rfl) (by simp) (All.cons rfl (fun K hK => ?_) (All.nil))
        rw [if_pos (by rfl)]
        refine wp_store_row 38 _ _ rfl (gn) 38 leaseZ leaseZ rfl rfl (Blk.hs Kn.out) big_leaseZ.info (big_leaseZ.same big_leaseZ) big_leaseZ.one rfl ?_
        replace Kn := Lib.hid (Kn.out.row_ leaseZ)
        replace Km := Lib.hid (Km.out.rowfar (show gm ≠ gn by have := Nmn.out; omega) leaseZ)
        replace BD := Lib.hid (below_setRow BD.out Ln.out leaseZ)
        generalize hw2 : (vc43.setRow (gn) leaseZ) = vc44 at Km Kn BD ⊢
        clear hw2
        refine hK _ _ (Till.high (by rfl) BD.out) (fun _ => ?_)
        clear hK K
        refine Ph.takeP (i := 12) (v := .int .i64 4) rfl (fun W => by go_simp) (Till.high (by rfl) BD.out) ?_
        (try simp only [Act.put, nA, nB, nC, nD, nE, nF])
        refine Ph.done (by kernel_rfl) ?_ _
        go_wp2_with fail
        go_meet
        exact ⟨rfl, BD⟩
    · go_simp
      obtain ⟨gn, hgn⟩ : ∃ G, vc1.heap.size = G := ⟨_, rfl⟩
      have Ln := Lib.hid (show w10.heap.size ≤ gn from by rw [← hgn]; exact BD.out.size)
      obtain ⟨vc45, hw2, Kn, BD⟩ : ∃ X, vc1.alloc (.cells leaseZ 38) = X ∧ Hid (Blk X gn 38 leaseZ) ∧ Hid (Below w10.heap.size w10 X) := ⟨_, rfl, Lib.hid (Blk.new' _ _ _ _ hgn rfl), Lib.hid (BD.out.alloc BD.out.size _)⟩
      try rw [hgn]
      rw [hw2]
      clear hw2 hgn
      refine hK _ _ (Till.low trivial BD.out) (fun _ => ?_)
      clear hK K
      (try simp only [Act.put, nA, nB, nC, nD, nE, nF])
      refine Ph.ready (rs := [1, 8]) (by kernel_rfl) (by simp) (All.cons rfl (fun K hK => ?_) (All.cons rfl (fun K hK => ?_) (All.nil)))
      · go_simp
        refine (sn_key _).mono ?_
        rintro e vc46 ⟨rfl, hb⟩
        replace Kn := Lib.hid (Kn.out.below hb Kn.out.lt)
        replace BD := Lib.hid (bt BD.out hb)
        clear hb
        go_wp2_with fail
        refine hK _ _ (Till.low trivial BD.out) (fun _ => ?_)
        clear hK K
        (try simp only [Act.put, nA, nB, nC, nD, nE, nF])
        refine Ph.ready (rs := [3, 8]) (by kernel_rfl) (by simp) (All.cons rfl (fun K hK => ?_) (All.cons rfl (fun K hK => ?_) (All.nil)))
        · go_simp
          refine (sn_g3 a4 c4 _ (R4.out.mono BD.out)).mono ?_
          rintro e vc47 ⟨rfl, hb⟩
          replace Kn := Lib.hid (Kn.out.below hb Kn.out.lt)
          replace BD := Lib.hid (bt BD.out hb)
          clear hb
          go_wp2_with fail
          refine hK _ _ (Till.high (by rfl) BD.out) (fun _ => ?_)
          clear hK K
          refine Ph.takeP (i := 4) (v := .tuple #[.agg #[.int .i64 0, .int .i64 0, .slice none 0 0], .agg leaseZ, .int .i64 4]) rfl (fun W => by go_simp) (Till.high (by rfl) BD.out) ?_
          refine Ph.takeP (i := 5) (v := .agg #[.int .i64 0, .int .i64 0, .slice none 0 0]) rfl (fun W => by go_simp) (Till.high (by rfl) BD.out) ?_
          refine Ph.takeP (i := 6) (v := .agg leaseZ) rfl (fun W => by go_simp) (Till.high (by rfl) BD.out) ?_
          refine Ph.takeP (i := 7) (v := .int .i64 4) rfl (fun W => by go_simp) (Till.high (by rfl) BD.out) ?_
          (try simp only [Act.put, nA, nB, nC, nD, nE, nF])
          refine Ph.ready (rs := [8]) (by kernel_rfl) (by simp) (All.cons rfl (fun K hK => ?_) (All.nil))
          go_simp
          obtain ⟨gm, hgm⟩ : ∃ G, vc47.heap.size = G := ⟨_, rfl⟩
          have Lm := Lib.hid (show w10.heap.size ≤ gm from by rw [← hgm]; exact BD.out.size)
          have Nnm := Lib.hid (show gn < gm from by rw [← hgm]; exact Kn.out.lt)
          obtain ⟨vc48, hw2, Km, Kn, BD⟩ : ∃ X, vc47.alloc (.cells #[.int .i64 0, .int .i64 0, .slice none 0 0] 24) = X ∧ Hid (Blk X gm 24 #[.int .i64 0, .int .i64 0, .slice none 0 0]) ∧ Hid (Blk X (gn) 38 leaseZ) ∧ Hid (Below w10.heap.size w10 X) := ⟨_, rfl, Lib.hid (Blk.new' _ _ _ _ hgm rfl), Lib.hid (Kn.out.alloc _), Lib.hid (BD.out.alloc BD.out.size _)⟩
          try rw [hgm]
          rw [hw2]
          clear hw2 hgm
          refine hK _ _ (Till.high (by rfl) BD.out) (fun _ => ?_)
          clear hK K
          (try simp only [Act.put, nA, nB, nC, nD, nE, nF])
          refine Ph.ready (rs := [10]) (by kernel_rfl) (by simp) (All.cons rfl (fun K hK => ?_) (All.nil))
          rw [if_pos (by rfl)]
          refine wp_store_row 24 _ _ rfl (gm) 24 #[.int .i64 0, .int .i64 0, .slice none 0 0] #[.int .i64 0, .int .i64 0, .slice none 0 0] rfl rfl (Blk.hs Km.out) (big_grants _ _ _ _ _).info ((big_grants _ _ _ _ _).same (big_grants _ _ _ _ _)) (big_grants _ _ _ _ _).one rfl ?_
          replace Km := Lib.hid (Km.out.row_ #[.int .i64 0, .int .i64 0, .slice none 0 0])
          replace Kn := Lib.hid (Kn.out.rowfar (show gn ≠ gm by have := Nnm.out; omega) #[.int .i64 0, .int .i64 0, .slice none 0 0])
          replace BD := Lib.hid (below_setRow BD.out Lm.out #[.int .i64 0, .int .i64 0, .slice none 0 0])
          generalize hw2 : (vc48.setRow (gm) #[.int .i64 0, .int .i64 0, .slice none 0 0]) = vc49 at Kn Km BD ⊢
          clear hw2
          refine hK _ _ (Till.high (by rfl) BD.out) (fun _ => ?_)
          clear hK K
          (try simp only [Act.put, nA, nB, nC, nD, nE, nF])
          refine Ph.ready (rs := [11]) (by kernel_rfl) (by simp) (All.cons rfl (fun K hK => ?_) (All.nil))
          rw [if_pos (by rfl)]
          refine wp_store_row 38 _ _ rfl (gn) 38 leaseZ leaseZ rfl rfl (Blk.hs Kn.out) big_leaseZ.info (big_leaseZ.same big_leaseZ) big_leaseZ.one rfl ?_
          replace Kn := Lib.hid (Kn.out.row_ leaseZ)
          replace Km := Lib.hid (Km.out.rowfar (show gm ≠ gn by have := Nnm.out; omega) leaseZ)
          replace BD := Lib.hid (below_setRow BD.out Ln.out leaseZ)
          generalize hw2 : (vc49.setRow (gn) leaseZ) = vc50 at Kn Km BD ⊢
          clear hw2
          refine hK _ _ (Till.high (by rfl) BD.out) (fun _ => ?_)
          clear hK K
          refine Ph.takeP (i := 12) (v := .int .i64 4) rfl (fun W => by go_simp) (Till.high (by rfl) BD.out) ?_
          (try simp only [Act.put, nA, nB, nC, nD, nE, nF])
          refine Ph.done (by kernel_rfl) ?_ _
          go_wp2_with fail
          go_meet
          exact ⟨rfl, BD⟩
        · go_simp
          obtain ⟨gm, hgm⟩ : ∃ G, vc46.heap.size = G := ⟨_, rfl⟩
          have Lm := Lib.hid (show w10.heap.size ≤ gm from by rw [← hgm]; exact BD.out.size)
          have Nnm := Lib.hid (show gn < gm from by rw [← hgm]; exact Kn.out.lt)
          obtain ⟨vc51, hw2, Km, Kn, BD⟩ : ∃ X, vc46.alloc (.cells #[.int .i64 0, .int .i64 0, .slice none 0 0] 24) = X ∧ Hid (Blk X gm 24 #[.int .i64 0, .int .i64 0, .slice none 0 0]) ∧ Hid (Blk X (gn) 38 leaseZ) ∧ Hid (Below w10.heap.size w10 X) := ⟨_, rfl, Lib.hid (Blk.new' _ _ _ _ hgm rfl), Lib.hid (Kn.out.alloc _), Lib.hid (BD.out.alloc BD.out.size _)⟩
          try rw [hgm]
          rw [hw2]
          clear hw2 hgm
          refine hK _ _ (Till.low trivial BD.out) (fun _ => ?_)
          clear hK K
          (try simp only [Act.put, nA, nB, nC, nD, nE, nF])
          refine Ph.ready (rs := [3]) (by kernel_rfl) (by simp) (All.cons rfl (fun K hK => ?_) (All.nil))
          go_simp
          refine (sn_g3 a4 c4 _ (R4.out.mono BD.out)).mono ?_
          rintro e vc52 ⟨rfl, hb⟩
          replace Kn := Lib.hid (Kn.out.below hb Kn.out.lt)
          replace Km := Lib.hid (Km.out.below hb Km.out.lt)
          replace BD := Lib.hid (bt BD.out hb)
          clear hb
          go_wp2_with fail
          refine hK _ _ (Till.high (by rfl) BD.out) (fun _ => ?_)
          clear hK K
          refine Ph.takeP (i := 4) (v := .tuple #[.agg #[.int .i64 0, .int .i64 0, .slice none 0 0], .agg leaseZ, .int .i64 4]) rfl (fun W => by go_simp) (Till.high (by rfl) BD.out) ?_
          refine Ph.takeP (i := 5) (v := .agg #[.int .i64 0, .int .i64 0, .slice none 0 0]) rfl (fun W => by go_simp) (Till.high (by rfl) BD.out) ?_
          refine Ph.takeP (i := 6) (v := .agg leaseZ) rfl (fun W => by go_simp) (Till.high (by rfl) BD.out) ?_
          refine Ph.takeP (i := 7) (v := .int .i64 4) rfl (fun W => by go_simp) (Till.high (by rfl) BD.out) ?_
          (try simp only [Act.put, nA, nB, nC, nD, nE, nF])
          refine Ph.ready (rs := [10]) (by kernel_rfl) (by simp) (All.cons rfl (fun K hK => ?_) (All.nil))
          rw [if_pos (by rfl)]
          refine wp_store_row 24 _ _ rfl (gm) 24 #[.int .i64 0, .int .i64 0, .slice none 0 0] #[.int .i64 0, .int .i64 0, .slice none 0 0] rfl rfl (Blk.hs Km.out) (big_grants _ _ _ _ _).info ((big_grants _ _ _ _ _).same (big_grants _ _ _ _ _)) (big_grants _ _ _ _ _).one rfl ?_
          replace Km := Lib.hid (Km.out.row_ #[.int .i64 0, .int .i64 0, .slice none 0 0])
          replace Kn := Lib.hid (Kn.out.rowfar (show gn ≠ gm by have := Nnm.out; omega) #[.int .i64 0, .int .i64 0, .slice none 0 0])
          replace BD := Lib.hid (below_setRow BD.out Lm.out #[.int .i64 0, .int .i64 0, .slice none 0 0])
          generalize hw2 : (vc52.setRow (gm) #[.int .i64 0, .int .i64 0, .slice none 0 0]) = vc53 at Kn Km BD ⊢
          clear hw2
          refine hK _ _ (Till.high (by rfl) BD.out) (fun _ => ?_)
          clear hK K
          (try simp only [Act.put, nA, nB, nC, nD, nE, nF])
          refine Ph.ready (rs := [11]) (by kernel_rfl) (by simp) (All.cons rfl (fun K hK => ?_) (All.nil))
          rw [if_pos (by rfl)]
          refine wp_store_row 38 _ _ rfl (gn) 38 leaseZ leaseZ rfl rfl (Blk.hs Kn.out) big_leaseZ.info (big_leaseZ.same big_leaseZ) big_leaseZ.one rfl ?_
          replace Kn := Lib.hid (Kn.out.row_ leaseZ)
          replace Km := Lib.hid (Km.out.rowfar (show gm ≠ gn by have := Nnm.out; omega) leaseZ)
          replace BD := Lib.hid (below_setRow BD.out Ln.out leaseZ)
          generalize hw2 : (vc53.setRow (gn) leaseZ) = vc54 at Kn Km BD ⊢
          clear hw2
          refine hK _ _ (Till.high (by rfl) BD.out) (fun _ => ?_)
          clear hK K
          refine Ph.takeP (i := 12) (v := .int .i64 4) rfl (fun W => by go_simp) (Till.high (by rfl) BD.out) ?_
          (try simp only [Act.put, nA, nB, nC, nD, nE, nF])
          refine Ph.done (by kernel_rfl) ?_ _
          go_wp2_with fail
          go_meet
          exact ⟨rfl, BD⟩
      · go_simp
        obtain ⟨gm, hgm⟩ : ∃ G, vc45.heap.size = G := ⟨_, rfl⟩
        have Lm := Lib.hid (show w10.heap.size ≤ gm from by rw [← hgm]; exact BD.out.size)
        have Nnm := Lib.hid (show gn < gm from by rw [← hgm]; exact Kn.out.lt)
        obtain ⟨vc55, hw2, Km, Kn, BD⟩ : ∃ X, vc45.alloc (.cells #[.int .i64 0, .int .i64 0, .slice none 0 0] 24) = X ∧ Hid (Blk X gm 24 #[.int .i64 0, .int .i64 0, .slice none 0 0]) ∧ Hid (Blk X (gn) 38 leaseZ) ∧ Hid (Below w10.heap.size w10 X) := ⟨_, rfl, Lib.hid (Blk.new' _ _ _ _ hgm rfl), Lib.hid (Kn.out.alloc _), Lib.hid (BD.out.alloc BD.out.size _)⟩
        try rw [hgm]
        rw [hw2]
        clear hw2 hgm
        refine hK _ _ (Till.low trivial BD.out) (fun _ => ?_)
        clear hK K
        (try simp only [Act.put, nA, nB, nC, nD, nE, nF])
        refine Ph.ready (rs := [1]) (by kernel_rfl) (by simp) (All.cons rfl (fun K hK => ?_) (All.nil))
        go_simp
        refine (sn_key _).mono ?_
        rintro e vc56 ⟨rfl, hb⟩
        replace Kn := Lib.hid (Kn.out.below hb Kn.out.lt)
        replace Km := Lib.hid (Km.out.below hb Km.out.lt)
        replace BD := Lib.hid (bt BD.out hb)
        clear hb
        go_wp2_with fail
        refine hK _ _ (Till.low trivial BD.out) (fun _ => ?_)
        clear hK K
        (try simp only [Act.put, nA, nB, nC, nD, nE, nF])
        refine Ph.ready (rs := [3]) (by kernel_rfl) (by simp) (All.cons rfl (fun K hK => ?_) (All.nil))
        go_simp
        refine (sn_g3 a4 c4 _ (R4.out.mono BD.out)).mono ?_
        rintro e vc57 ⟨rfl, hb⟩
        replace Kn := Lib.hid (Kn.out.below hb Kn.out.lt)
        replace Km := Lib.hid (Km.out.below hb Km.out.lt)
        replace BD := Lib.hid (bt BD.out hb)
        clear hb
        go_wp2_with fail
        refine hK _ _ (Till.high (by rfl) BD.out) (fun _ => ?_)
        clear hK K
        refine Ph.takeP (i := 4) (v := .tuple #[.agg #[.int .i64 0, .int .i64 0, .slice none 0 0], .agg leaseZ, .int .i64 4]) rfl (fun W => by go_simp) (Till.high (by rfl) BD.out) ?_
        refine Ph.takeP (i := 5) (v := .agg #[.int .i64 0, .int .i64 0, .slice none 0 0]) rfl (fun W => by go_simp) (Till.high (by rfl) BD.out) ?_
        refine Ph.takeP (i := 6) (v := .agg leaseZ) rfl (fun W => by go_simp) (Till.high (by rfl) BD.out) ?_
        refine Ph.takeP (i := 7) (v := .int .i64 4) rfl (fun W => by go_simp) (Till.high (by rfl) BD.out) ?_
        (try simp only [Act.put, nA, nB, nC, nD, nE, nF])
        refine Ph.ready (rs := [10]) (by kernel_rfl) (by simp) (All.cons rfl (fun K hK => ?_) (All.nil))
        rw [if_pos (by rfl)]
        refine wp_store_row 24 _ _ rfl (gm) 24 #[.int .i64 0, .int .i64 0, .slice none 0 0] #[.int .i64 0, .int .i64 0, .slice none 0 0] rfl rfl (Blk.hs Km.out) (big_grants _ _ _ _ _).info ((big_grants _ _ _ _ _).same (big_grants _ _ _ _ _)) (big_grants _ _ _ _ _).one rfl ?_
        replace Km := Lib.hid (Km.out.row_ #[.int .i64 0, .int .i64 0, .slice none 0 0])
        replace Kn := Lib.hid (Kn.out.rowfar (show gn ≠ gm by have := Nnm.out; omega) #[.int .i64 0, .int .i64 0, .slice none 0 0])
        replace BD := Lib.hid (below_setRow BD.out Lm.out #[.int .i64 0, .int .i64 0, .slice none 0 0])
        generalize hw2 : (vc57.setRow (gm) #[.int .i64 0, .int .i64 0, .slice none 0 0]) = vc58 at Kn Km BD ⊢
        clear hw2
        refine hK _ _ (Till.high (by rfl) BD.out) (fun _ => ?_)
        clear hK K
        (try simp only [Act.put, nA, nB, nC, nD, nE, nF])
        refine Ph.ready (rs := [11]) (by kernel_rfl) (by simp) (All.cons rfl (fun K hK => ?_) (All.nil))
        rw [if_pos (by rfl)]
        refine wp_store_row 38 _ _ rfl (gn) 38 leaseZ leaseZ rfl rfl (Blk.hs Kn.out) big_leaseZ.info (big_leaseZ.same big_leaseZ) big_leaseZ.one rfl ?_
        replace Kn := Lib.hid (Kn.out.row_ leaseZ)
        replace Km := Lib.hid (Km.out.rowfar (show gm ≠ gn by have := Nnm.out; omega) leaseZ)
        replace BD := Lib.hid (below_setRow BD.out Ln.out leaseZ)
        generalize hw2 : (vc58.setRow (gn) leaseZ) = vc59 at Kn Km BD ⊢
        clear hw2
        refine hK _ _ (Till.high (by rfl) BD.out) (fun _ => ?_)
        clear hK K
        refine Ph.takeP (i := 12) (v := .int .i64 4) rfl (fun W => by go_simp) (Till.high (by rfl) BD.out) ?_
        (try simp only [Act.put, nA, nB, nC, nD, nE, nF])
        refine Ph.done (by kernel_rfl) ?_ _
        go_wp2_with fail
        go_meet
        exact ⟨rfl, BD⟩
  obtain ⟨rfl, XB⟩ := hcut
  have hb := XB.out
  clear XB
  replace Kg := Lib.hid (Kg.out.below hb Kg.out.lt)
  replace Kp := Lib.hid (Kp.out.below hb Kp.out.lt)
  replace Ka := Lib.hid (Ka.out.below hb Ka.out.lt)
  replace Kb := Lib.hid (Kb.out.below hb Kb.out.lt)
  replace Rw := Lib.hid (Rw.out.mono hb)
  replace R4 := Lib.hid (R4.out.mono hb)
  replace B := Lib.hid (B.out.trans (hb.mono B.out.size))
  clear hb
  clear R4
  obtain ⟨bgc0, bgc1, bgc2⟩ := three Kg.out
  obtain ⟨bpc0, bpc1⟩ := twob Kp.out
  obtain ⟨bac0, bac1, bac2, bac3⟩ := LCa.out _ _ Ka.out
  obtain ⟨bbc0, bbc1, bbc2, bbc3⟩ := LCb.out _ _ Kb.out
  clear bgc0 bgc1 bgc2 bpc0 bpc1 bac0 bac1 bac2 bac3 bbc0 bbc1 bbc2 bbc3
  go_upto_region 11 with (fail)
  go_cut [19, 20] from 77 to 84 (fun u19 u20 wx => u20 = .int .i64 0 ∧ ∃ gs, u19 = .pointer (some ⟨gs, 0, none⟩) ∧ Hid (Blk wx gs 67 HC) ∧ Hid (Below wc.heap.size wc wx))
  case first =>
    refine Ph.start (S := Till 4 (fun _ => True) (fun W => Below wc.heap.size wc W)) (by kernel_rfl) (Till.low trivial (Below.refl _ _).drew) (fun _ => ?_)
    have BD := Lib.hid (Below.refl wc.heap.size wc).drew
    generalize wc.drew = vd1 at BD ⊢
    refine Ph.takeP (i := 2) (v := .agg HZ) rfl (fun W => by rw [← EZ.out]; kernel_rfl) (Till.low trivial BD.out) ?_
    refine Ph.takeU (i := 3) (v := .agg (LB)) rfl (Or.inl ⟨by rfl, fun W hW => exec_load_row 38 _ rfl (gb) rfl 38 (LB) (0, 0) _ (Kb.out.below hW Kb.out.lt) Tryd.underlying38 rfl BNb.out.info⟩) (Till.low trivial BD.out) ?_
    (try simp only [Act.put, nA, nB, nC, nD, nE, nF])
    refine Ph.ready (rs := [0, 8]) (by kernel_rfl) (by simp) (All.cons rfl (fun K hK => ?_) (All.cons rfl (fun K hK => ?_) (All.nil)))
    · go_simp
      refine (sn_key _).mono ?_
      rintro e vd2 ⟨rfl, hb⟩
      replace BD := Lib.hid (bt BD.out hb)
      clear hb
      go_wp2_with fail
      refine hK _ _ (Till.low trivial BD.out) (fun _ => ?_)
      clear hK K
      (try simp only [Act.put, nA, nB, nC, nD, nE, nF])
      refine Ph.ready (rs := [1, 8]) (by kernel_rfl) (by simp) (All.cons rfl (fun K hK => ?_) (All.cons rfl (fun K hK => ?_) (All.nil)))
      · go_simp
        obtain ⟨gk, hgk⟩ : ∃ G, vd2.heap.size = G := ⟨_, rfl⟩
        have Lk := Lib.hid (show wc.heap.size ≤ gk from by rw [← hgk]; exact BD.out.size)
        obtain ⟨vd3, hw2, Kk, BD⟩ : ∃ X, vd2.alloc (.cells #[.int .i64 1, .int .i64 1, .string kS, .int .i64 0, .int .i64 1099511627776] 26) = X ∧ Hid (Blk X gk 26 #[.int .i64 1, .int .i64 1, .string kS, .int .i64 0, .int .i64 1099511627776]) ∧ Hid (Below wc.heap.size wc X) := ⟨_, rfl, Lib.hid (Blk.new' _ _ _ _ hgk rfl), Lib.hid (BD.out.alloc BD.out.size _)⟩
        try rw [hgk]
        rw [hw2]
        clear hw2 hgk
        refine hK _ _ (Till.low trivial BD.out) (fun _ => ?_)
        clear hK K
        (try simp only [Act.put, nA, nB, nC, nD, nE, nF])
        refine Ph.ready (rs := [4, 8]) (by kernel_rfl) (by simp) (All.cons rfl (fun K hK => ?_) (All.cons rfl (fun K hK => ?_) (All.nil)))
        · go_simp
          refine (TK.out _ _ _ (ring_of Kk.out) (HLA.out.below (bt B.out BD.out))).mono ?_
          rintro e vd4 ⟨rfl, hb⟩
          replace Kk := Lib.hid (Kk.out.below hb Kk.out.lt)
          replace BD := Lib.hid (bt BD.out hb)
          clear hb
          go_wp2_with fail
          refine hK _ _ (Till.high (by rfl) BD.out) (fun _ => ?_)
          clear hK K
          refine Ph.takeP (i := 5) (v := .tuple #[.agg HC, .int .i64 0]) rfl (fun W => by go_simp) (Till.high (by rfl) BD.out) ?_
          refine Ph.takeP (i := 6) (v := .agg HC) rfl (fun W => by go_simp) (Till.high (by rfl) BD.out) ?_
          refine Ph.takeP (i := 7) (v := .int .i64 0) rfl (fun W => by go_simp) (Till.high (by rfl) BD.out) ?_
          (try simp only [Act.put, nA, nB, nC, nD, nE, nF])
          refine Ph.ready (rs := [8]) (by kernel_rfl) (by simp) (All.cons rfl (fun K hK => ?_) (All.nil))
          go_simp
          obtain ⟨gs, hgs⟩ : ∃ G, vd4.heap.size = G := ⟨_, rfl⟩
          have Ls := Lib.hid (show wc.heap.size ≤ gs from by rw [← hgs]; exact BD.out.size)
          have Nks := Lib.hid (show gk < gs from by rw [← hgs]; exact Kk.out.lt)
          obtain ⟨vd5, hw2, Ks, Kk, BD⟩ : ∃ X, vd4.alloc (.cells #[.int .i64 0, .int .i64 0, .int .i64 0, .int .i64 0, .int .i64 0, .int .i64 0, .int .u8 0, .int .u8 0, .int .u8 0, .int .u8 0, .int .u8 0, .int .u8 0, .int .u8 0, .int .u8 0, .int .u8 0, .int .u8 0, .int .u8 0, .int .u8 0, .int .u8 0, .int .u8 0, .int .u8 0, .int .u8 0] 67) = X ∧ Hid (Blk X gs 67 #[.int .i64 0, .int .i64 0, .int .i64 0, .int .i64 0, .int .i64 0, .int .i64 0, .int .u8 0, .int .u8 0, .int .u8 0, .int .u8 0, .int .u8 0, .int .u8 0, .int .u8 0, .int .u8 0, .int .u8 0, .int .u8 0, .int .u8 0, .int .u8 0, .int .u8 0, .int .u8 0, .int .u8 0, .int .u8 0]) ∧ Hid (Blk X (gk) 26 #[.int .i64 1, .int .i64 1, .string kS, .int .i64 0, .int .i64 1099511627776]) ∧ Hid (Below wc.heap.size wc X) := ⟨_, rfl, Lib.hid (Blk.new' _ _ _ _ hgs rfl), Lib.hid (Kk.out.alloc _), Lib.hid (BD.out.alloc BD.out.size _)⟩
          try rw [hgs]
          rw [hw2]
          clear hw2 hgs
          refine hK _ _ (Till.high (by rfl) BD.out) (fun _ => ?_)
          clear hK K
          (try simp only [Act.put, nA, nB, nC, nD, nE, nF])
          refine Ph.ready (rs := [9]) (by kernel_rfl) (by simp) (All.cons rfl (fun K hK => ?_) (All.nil))
          rw [if_pos (by rfl)]
          refine wp_store_row 67 _ _ rfl (gs) 67 #[.int .i64 0, .int .i64 0, .int .i64 0, .int .i64 0, .int .i64 0, .int .i64 0, .int .u8 0, .int .u8 0, .int .u8 0, .int .u8 0, .int .u8 0, .int .u8 0, .int .u8 0, .int .u8 0, .int .u8 0, .int .u8 0, .int .u8 0, .int .u8 0, .int .u8 0, .int .u8 0, .int .u8 0, .int .u8 0] HC rfl rfl (Blk.hs Ks.out) BNs.out.info (big_heldZ.same BNs.out) BNs.out.one rfl ?_
          replace Ks := Lib.hid (Ks.out.row_ HC)
          replace Kk := Lib.hid (Kk.out.rowfar (show gk ≠ gs by have := Nks.out; omega) HC)
          replace BD := Lib.hid (below_setRow BD.out Ls.out HC)
          generalize hw2 : (vd5.setRow (gs) HC) = vd6 at Kk Ks BD ⊢
          clear hw2
          refine hK _ _ (Till.high (by rfl) BD.out) (fun _ => ?_)
          clear hK K
          refine Ph.takeP (i := 10) (v := .int .i64 0) rfl (fun W => by go_simp) (Till.high (by rfl) BD.out) ?_
          (try simp only [Act.put, nA, nB, nC, nD, nE, nF])
          refine Ph.done (by kernel_rfl) ?_ _
          go_wp2_with fail
          go_meet
          exact ⟨rfl, gs, rfl, Ks, BD⟩
        · go_simp
          obtain ⟨gs, hgs⟩ : ∃ G, vd3.heap.size = G := ⟨_, rfl⟩
          have Ls := Lib.hid (show wc.heap.size ≤ gs from by rw [← hgs]; exact BD.out.size)
          have Nks := Lib.hid (show gk < gs from by rw [← hgs]; exact Kk.out.lt)
          obtain ⟨vd7, hw2, Ks, Kk, BD⟩ : ∃ X, vd3.alloc (.cells #[.int .i64 0, .int .i64 0, .int .i64 0, .int .i64 0, .int .i64 0, .int .i64 0, .int .u8 0, .int .u8 0, .int .u8 0, .int .u8 0, .int .u8 0, .int .u8 0, .int .u8 0, .int .u8 0, .int .u8 0, .int .u8 0, .int .u8 0, .int .u8 0, .int .u8 0, .int .u8 0, .int .u8 0, .int .u8 0] 67) = X ∧ Hid (Blk X gs 67 #[.int .i64 0, .int .i64 0, .int .i64 0, .int .i64 0, .int .i64 0, .int .i64 0, .int .u8 0, .int .u8 0, .int .u8 0, .int .u8 0, .int .u8 0, .int .u8 0, .int .u8 0, .int .u8 0, .int .u8 0, .int .u8 0, .int .u8 0, .int .u8 0, .int .u8 0, .int .u8 0, .int .u8 0, .int .u8 0]) ∧ Hid (Blk X (gk) 26 #[.int .i64 1, .int .i64 1, .string kS, .int .i64 0, .int .i64 1099511627776]) ∧ Hid (Below wc.heap.size wc X) := ⟨_, rfl, Lib.hid (Blk.new' _ _ _ _ hgs rfl), Lib.hid (Kk.out.alloc _), Lib.hid (BD.out.alloc BD.out.size _)⟩
          try rw [hgs]
          rw [hw2]
          clear hw2 hgs
          refine hK _ _ (Till.low trivial BD.out) (fun _ => ?_)
          clear hK K
          (try simp only [Act.put, nA, nB, nC, nD, nE, nF])
          refine Ph.ready (rs := [4]) (by kernel_rfl) (by simp) (All.cons rfl (fun K hK => ?_) (All.nil))
          go_simp
          refine (TK.out _ _ _ (ring_of Kk.out) (HLA.out.below (bt B.out BD.out))).mono ?_
          rintro e vd8 ⟨rfl, hb⟩
          replace Kk := Lib.hid (Kk.out.below hb Kk.out.lt)
          replace Ks := Lib.hid (Ks.out.below hb Ks.out.lt)
          replace BD := Lib.hid (bt BD.out hb)
          clear hb
          go_wp2_with fail
          refine hK _ _ (Till.high (by rfl) BD.out) (fun _ => ?_)
          clear hK K
          refine Ph.takeP (i := 5) (v := .tuple #[.agg HC, .int .i64 0]) rfl (fun W => by go_simp) (Till.high (by rfl) BD.out) ?_
          refine Ph.takeP (i := 6) (v := .agg HC) rfl (fun W => by go_simp) (Till.high (by rfl) BD.out) ?_
          refine Ph.takeP (i := 7) (v := .int .i64 0) rfl (fun W => by go_simp) (Till.high (by rfl) BD.out) ?_
          (try simp only [Act.put, nA, nB, nC, nD, nE, nF])
          refine Ph.ready (rs := [9]) (by kernel_rfl) (by simp) (All.cons rfl (fun K hK => ?_) (All.nil))
          rw [if_pos (by rfl)]
          refine wp_store_row 67 _ _ rfl (gs) 67 #[.int .i64 0, .int .i64 0, .int .i64 0, .int .i64 0, .int .i64 0, .int .i64 0, .int .u8 0, .int .u8 0, .int .u8 0, .int .u8 0, .int .u8 0, .int .u8 0, .int .u8 0, .int .u8 0, .int .u8 0, .int .u8 0, .int .u8 0, .int .u8 0, .int .u8 0, .int .u8 0, .int .u8 0, .int .u8 0] HC rfl rfl (Blk.hs Ks.out) BNs.out.info (big_heldZ.same BNs.out) BNs.out.one rfl ?_
          replace Ks := Lib.hid (Ks.out.row_ HC)
          replace Kk := Lib.hid (Kk.out.rowfar (show gk ≠ gs by have := Nks.out; omega) HC)
          replace BD := Lib.hid (below_setRow BD.out Ls.out HC)
          generalize hw2 : (vd8.setRow (gs) HC) = vd9 at Kk Ks BD ⊢
          clear hw2
          refine hK _ _ (Till.high (by rfl) BD.out) (fun _ => ?_)
          clear hK K
          refine Ph.takeP (i := 10) (v := .int .i64 0) rfl (fun W => by go_simp) (Till.high (by rfl) BD.out) ?_
          (try simp only [Act.put, nA, nB, nC, nD, nE, nF])
          refine Ph.done (by kernel_rfl) ?_ _
          go_wp2_with fail
          go_meet
          exact ⟨rfl, gs, rfl, Ks, BD⟩
      · go_simp
        obtain ⟨gs, hgs⟩ : ∃ G, vd2.heap.size = G := ⟨_, rfl⟩
        have Ls := Lib.hid (show wc.heap.size ≤ gs from by rw [← hgs]; exact BD.out.size)
        obtain ⟨vd10, hw2, Ks, BD⟩ : ∃ X, vd2.alloc (.cells #[.int .i64 0, .int .i64 0, .int .i64 0, .int .i64 0, .int .i64 0, .int .i64 0, .int .u8 0, .int .u8 0, .int .u8 0, .int .u8 0, .int .u8 0, .int .u8 0, .int .u8 0, .int .u8 0, .int .u8 0, .int .u8 0, .int .u8 0, .int .u8 0, .int .u8 0, .int .u8 0, .int .u8 0, .int .u8 0] 67) = X ∧ Hid (Blk X gs 67 #[.int .i64 0, .int .i64 0, .int .i64 0, .int .i64 0, .int .i64 0, .int .i64 0, .int .u8 0, .int .u8 0, .int .u8 0, .int .u8 0, .int .u8 0, .int .u8 0, .int .u8 0, .int .u8 0, .int .u8 0, .int .u8 0, .int .u8 0, .int .u8 0, .int .u8 0, .int .u8 0, .int .u8 0, .int .u8 0]) ∧ Hid (Below wc.heap.size wc X) := ⟨_, rfl, Lib.hid (Blk.new' _ _ _ _ hgs rfl), Lib.hid (BD.out.alloc BD.out.size _)⟩
        try rw [hgs]
        rw [hw2]
        clear hw2 hgs
        refine hK _ _ (Till.low trivial BD.out) (fun _ => ?_)
        clear hK K
        (try simp only [Act.put, nA, nB, nC, nD, nE, nF])
        refine Ph.ready (rs := [1]) (by kernel_rfl) (by simp) (All.cons rfl (fun K hK => ?_) (All.nil))
        go_simp
        obtain ⟨gk, hgk⟩ : ∃ G, vd10.heap.size = G := ⟨_, rfl⟩
        have Lk := Lib.hid (show wc.heap.size ≤ gk from by rw [← hgk]; exact BD.out.size)
        have Nsk := Lib.hid (show gs < gk from by rw [← hgk]; exact Ks.out.lt)
        obtain ⟨vd11, hw2, Kk, Ks, BD⟩ : ∃ X, vd10.alloc (.cells #[.int .i64 1, .int .i64 1, .string kS, .int .i64 0, .int .i64 1099511627776] 26) = X ∧ Hid (Blk X gk 26 #[.int .i64 1, .int .i64 1, .string kS, .int .i64 0, .int .i64 1099511627776]) ∧ Hid (Blk X (gs) 67 #[.int .i64 0, .int .i64 0, .int .i64 0, .int .i64 0, .int .i64 0, .int .i64 0, .int .u8 0, .int .u8 0, .int .u8 0, .int .u8 0, .int .u8 0, .int .u8 0, .int .u8 0, .int .u8 0, .int .u8 0, .int .u8 0, .int .u8 0, .int .u8 0, .int .u8 0, .int .u8 0, .int .u8 0, .int .u8 0]) ∧ Hid (Below wc.heap.size wc X) := ⟨_, rfl, Lib.hid (Blk.new' _ _ _ _ hgk rfl), Lib.hid (Ks.out.alloc _), Lib.hid (BD.out.alloc BD.out.size _)⟩
        try rw [hgk]
        rw [hw2]
        clear hw2 hgk
        refine hK _ _ (Till.low trivial BD.out) (fun _ => ?_)
        clear hK K
        (try simp only [Act.put, nA, nB, nC, nD, nE, nF])
        refine Ph.ready (rs := [4]) (by kernel_rfl) (by simp) (All.cons rfl (fun K hK => ?_) (All.nil))
        go_simp
        refine (TK.out _ _ _ (ring_of Kk.out) (HLA.out.below (bt B.out BD.out))).mono ?_
        rintro e vd12 ⟨rfl, hb⟩
        replace Ks := Lib.hid (Ks.out.below hb Ks.out.lt)
        replace Kk := Lib.hid (Kk.out.below hb Kk.out.lt)
        replace BD := Lib.hid (bt BD.out hb)
        clear hb
        go_wp2_with fail
        refine hK _ _ (Till.high (by rfl) BD.out) (fun _ => ?_)
        clear hK K
        refine Ph.takeP (i := 5) (v := .tuple #[.agg HC, .int .i64 0]) rfl (fun W => by go_simp) (Till.high (by rfl) BD.out) ?_
        refine Ph.takeP (i := 6) (v := .agg HC) rfl (fun W => by go_simp) (Till.high (by rfl) BD.out) ?_
        refine Ph.takeP (i := 7) (v := .int .i64 0) rfl (fun W => by go_simp) (Till.high (by rfl) BD.out) ?_
        (try simp only [Act.put, nA, nB, nC, nD, nE, nF])
        refine Ph.ready (rs := [9]) (by kernel_rfl) (by simp) (All.cons rfl (fun K hK => ?_) (All.nil))
        rw [if_pos (by rfl)]
        refine wp_store_row 67 _ _ rfl (gs) 67 #[.int .i64 0, .int .i64 0, .int .i64 0, .int .i64 0, .int .i64 0, .int .i64 0, .int .u8 0, .int .u8 0, .int .u8 0, .int .u8 0, .int .u8 0, .int .u8 0, .int .u8 0, .int .u8 0, .int .u8 0, .int .u8 0, .int .u8 0, .int .u8 0, .int .u8 0, .int .u8 0, .int .u8 0, .int .u8 0] HC rfl rfl (Blk.hs Ks.out) BNs.out.info (big_heldZ.same BNs.out) BNs.out.one rfl ?_
        replace Ks := Lib.hid (Ks.out.row_ HC)
        replace Kk := Lib.hid (Kk.out.rowfar (show gk ≠ gs by have := Nsk.out; omega) HC)
        replace BD := Lib.hid (below_setRow BD.out Ls.out HC)
        generalize hw2 : (vd12.setRow (gs) HC) = vd13 at Ks Kk BD ⊢
        clear hw2
        refine hK _ _ (Till.high (by rfl) BD.out) (fun _ => ?_)
        clear hK K
        refine Ph.takeP (i := 10) (v := .int .i64 0) rfl (fun W => by go_simp) (Till.high (by rfl) BD.out) ?_
        (try simp only [Act.put, nA, nB, nC, nD, nE, nF])
        refine Ph.done (by kernel_rfl) ?_ _
        go_wp2_with fail
        go_meet
        exact ⟨rfl, gs, rfl, Ks, BD⟩
    · go_simp
      obtain ⟨gs, hgs⟩ : ∃ G, vd1.heap.size = G := ⟨_, rfl⟩
      have Ls := Lib.hid (show wc.heap.size ≤ gs from by rw [← hgs]; exact BD.out.size)
      obtain ⟨vd14, hw2, Ks, BD⟩ : ∃ X, vd1.alloc (.cells #[.int .i64 0, .int .i64 0, .int .i64 0, .int .i64 0, .int .i64 0, .int .i64 0, .int .u8 0, .int .u8 0, .int .u8 0, .int .u8 0, .int .u8 0, .int .u8 0, .int .u8 0, .int .u8 0, .int .u8 0, .int .u8 0, .int .u8 0, .int .u8 0, .int .u8 0, .int .u8 0, .int .u8 0, .int .u8 0] 67) = X ∧ Hid (Blk X gs 67 #[.int .i64 0, .int .i64 0, .int .i64 0, .int .i64 0, .int .i64 0, .int .i64 0, .int .u8 0, .int .u8 0, .int .u8 0, .int .u8 0, .int .u8 0, .int .u8 0, .int .u8 0, .int .u8 0, .int .u8 0, .int .u8 0, .int .u8 0, .int .u8 0, .int .u8 0, .int .u8 0, .int .u8 0, .int .u8 0]) ∧ Hid (Below wc.heap.size wc X) := ⟨_, rfl, Lib.hid (Blk.new' _ _ _ _ hgs rfl), Lib.hid (BD.out.alloc BD.out.size _)⟩
      try rw [hgs]
      rw [hw2]
      clear hw2 hgs
      refine hK _ _ (Till.low trivial BD.out) (fun _ => ?_)
      clear hK K
      (try simp only [Act.put, nA, nB, nC, nD, nE, nF])
      refine Ph.ready (rs := [0]) (by kernel_rfl) (by simp) (All.cons rfl (fun K hK => ?_) (All.nil))
      go_simp
      refine (sn_key _).mono ?_
      rintro e vd15 ⟨rfl, hb⟩
      replace Ks := Lib.hid (Ks.out.below hb Ks.out.lt)
      replace BD := Lib.hid (bt BD.out hb)
      clear hb
      go_wp2_with fail
      refine hK _ _ (Till.low trivial BD.out) (fun _ => ?_)
      clear hK K
      (try simp only [Act.put, nA, nB, nC, nD, nE, nF])
      refine Ph.ready (rs := [1]) (by kernel_rfl) (by simp) (All.cons rfl (fun K hK => ?_) (All.nil))
      go_simp
      obtain ⟨gk, hgk⟩ : ∃ G, vd15.heap.size = G := ⟨_, rfl⟩
      have Lk := Lib.hid (show wc.heap.size ≤ gk from by rw [← hgk]; exact BD.out.size)
      have Nsk := Lib.hid (show gs < gk from by rw [← hgk]; exact Ks.out.lt)
      obtain ⟨vd16, hw2, Kk, Ks, BD⟩ : ∃ X, vd15.alloc (.cells #[.int .i64 1, .int .i64 1, .string kS, .int .i64 0, .int .i64 1099511627776] 26) = X ∧ Hid (Blk X gk 26 #[.int .i64 1, .int .i64 1, .string kS, .int .i64 0, .int .i64 1099511627776]) ∧ Hid (Blk X (gs) 67 #[.int .i64 0, .int .i64 0, .int .i64 0, .int .i64 0, .int .i64 0, .int .i64 0, .int .u8 0, .int .u8 0, .int .u8 0, .int .u8 0, .int .u8 0, .int .u8 0, .int .u8 0, .int .u8 0, .int .u8 0, .int .u8 0, .int .u8 0, .int .u8 0, .int .u8 0, .int .u8 0, .int .u8 0, .int .u8 0]) ∧ Hid (Below wc.heap.size wc X) := ⟨_, rfl, Lib.hid (Blk.new' _ _ _ _ hgk rfl), Lib.hid (Ks.out.alloc _), Lib.hid (BD.out.alloc BD.out.size _)⟩
      try rw [hgk]
      rw [hw2]
      clear hw2 hgk
      refine hK _ _ (Till.low trivial BD.out) (fun _ => ?_)
      clear hK K
      (try simp only [Act.put, nA, nB, nC, nD, nE, nF])
      refine Ph.ready (rs := [4]) (by kernel_rfl) (by simp) (All.cons rfl (fun K hK => ?_) (All.nil))
      go_simp
      refine (TK.out _ _ _ (ring_of Kk.out) (HLA.out.below (bt B.out BD.out))).mono ?_
      rintro e vd17 ⟨rfl, hb⟩
      replace Ks := Lib.hid (Ks.out.below hb Ks.out.lt)
      replace Kk := Lib.hid (Kk.out.below hb Kk.out.lt)
      replace BD := Lib.hid (bt BD.out hb)
      clear hb
      go_wp2_with fail
      refine hK _ _ (Till.high (by rfl) BD.out) (fun _ => ?_)
      clear hK K
      refine Ph.takeP (i := 5) (v := .tuple #[.agg HC, .int .i64 0]) rfl (fun W => by go_simp) (Till.high (by rfl) BD.out) ?_
      refine Ph.takeP (i := 6) (v := .agg HC) rfl (fun W => by go_simp) (Till.high (by rfl) BD.out) ?_
      refine Ph.takeP (i := 7) (v := .int .i64 0) rfl (fun W => by go_simp) (Till.high (by rfl) BD.out) ?_
      (try simp only [Act.put, nA, nB, nC, nD, nE, nF])
      refine Ph.ready (rs := [9]) (by kernel_rfl) (by simp) (All.cons rfl (fun K hK => ?_) (All.nil))
      rw [if_pos (by rfl)]
      refine wp_store_row 67 _ _ rfl (gs) 67 #[.int .i64 0, .int .i64 0, .int .i64 0, .int .i64 0, .int .i64 0, .int .i64 0, .int .u8 0, .int .u8 0, .int .u8 0, .int .u8 0, .int .u8 0, .int .u8 0, .int .u8 0, .int .u8 0, .int .u8 0, .int .u8 0, .int .u8 0, .int .u8 0, .int .u8 0, .int .u8 0, .int .u8 0, .int .u8 0] HC rfl rfl (Blk.hs Ks.out) BNs.out.info (big_heldZ.same BNs.out) BNs.out.one rfl ?_
      replace Ks := Lib.hid (Ks.out.row_ HC)
      replace Kk := Lib.hid (Kk.out.rowfar (show gk ≠ gs by have := Nsk.out; omega) HC)
      replace BD := Lib.hid (below_setRow BD.out Ls.out HC)
      generalize hw2 : (vd17.setRow (gs) HC) = vd18 at Ks Kk BD ⊢
      clear hw2
      refine hK _ _ (Till.high (by rfl) BD.out) (fun _ => ?_)
      clear hK K
      refine Ph.takeP (i := 10) (v := .int .i64 0) rfl (fun W => by go_simp) (Till.high (by rfl) BD.out) ?_
      (try simp only [Act.put, nA, nB, nC, nD, nE, nF])
      refine Ph.done (by kernel_rfl) ?_ _
      go_wp2_with fail
      go_meet
      exact ⟨rfl, gs, rfl, Ks, BD⟩
  obtain ⟨rfl, gs, rfl, Ks, XB⟩ := hcut
  have hb := XB.out
  clear XB
  replace Kg := Lib.hid (Kg.out.below hb Kg.out.lt)
  replace Kp := Lib.hid (Kp.out.below hb Kp.out.lt)
  replace Ka := Lib.hid (Ka.out.below hb Ka.out.lt)
  replace Kb := Lib.hid (Kb.out.below hb Kb.out.lt)
  replace Rw := Lib.hid (Rw.out.mono hb)
  replace B := Lib.hid (B.out.trans (hb.mono B.out.size))
  clear hb
  have BGs := BNs
  obtain ⟨bgc0, bgc1, bgc2⟩ := three Kg.out
  obtain ⟨bpc0, bpc1⟩ := twob Kp.out
  obtain ⟨bac0, bac1, bac2, bac3⟩ := LCa.out _ _ Ka.out
  obtain ⟨bbc0, bbc1, bbc2, bbc3⟩ := LCb.out _ _ Kb.out
  go_wp2_with (fail)
  refine (sites_any aw (some ⟨_, 0, none⟩) cw 1 [1] _ (Rw.out.mono ((Below.refl _ _).alloc (Nat.le_refl _) _)) (ints_one _) (by decide)).mono ?_
  rintro e w11 ⟨rfl, hz⟩
  have hb : Below wc.heap.size wc w11 := ((Below.refl _ wc).alloc (Nat.le_refl _) _).trans (hz.mono (by rw [World.size_alloc]; omega))
  replace Kg := Lib.hid (Kg.out.below hb Kg.out.lt)
  replace Kp := Lib.hid (Kp.out.below hb Kp.out.lt)
  replace Ka := Lib.hid (Ka.out.below hb Ka.out.lt)
  replace Kb := Lib.hid (Kb.out.below hb Kb.out.lt)
  replace Ks := Lib.hid (Ks.out.below hb Ks.out.lt)
  replace Rw := Lib.hid (Rw.out.mono hb)
  replace B := Lib.hid (B.out.trans (hb.mono B.out.size))
  clear bgc0 bgc1 bgc2 bpc0 bpc1 bac0 bac1 bac2 bac3 bbc0 bbc1 bbc2 bbc3
  clear hb hz
  obtain ⟨bgc0, bgc1, bgc2⟩ := three Kg.out
  obtain ⟨bpc0, bpc1⟩ := twob Kp.out
  obtain ⟨bac0, bac1, bac2, bac3⟩ := LCa.out _ _ Ka.out
  obtain ⟨bbc0, bbc1, bbc2, bbc3⟩ := LCb.out _ _ Kb.out
  go_wp2_with (first | (with_reducible refine wpList_load_want (by kernel_rfl) 67 _ rfl (gs) rfl 67 (HC) _ Ks.out Tryd.underlying67 rfl BGs.out.info ?_))
  refine (SV1.out _).mono ?_
  rintro e w12 ⟨rfl, hb⟩
  replace Kg := Lib.hid (Kg.out.below hb Kg.out.lt)
  replace Kp := Lib.hid (Kp.out.below hb Kp.out.lt)
  replace Ka := Lib.hid (Ka.out.below hb Ka.out.lt)
  replace Kb := Lib.hid (Kb.out.below hb Kb.out.lt)
  replace Ks := Lib.hid (Ks.out.below hb Ks.out.lt)
  replace Rw := Lib.hid (Rw.out.mono hb)
  replace B := Lib.hid (B.out.trans (hb.mono B.out.size))
  clear bgc0 bgc1 bgc2 bpc0 bpc1 bac0 bac1 bac2 bac3 bbc0 bbc1 bbc2 bbc3
  clear hb
  obtain ⟨bgc0, bgc1, bgc2⟩ := three Kg.out
  obtain ⟨bpc0, bpc1⟩ := twob Kp.out
  obtain ⟨bac0, bac1, bac2, bac3⟩ := LCa.out _ _ Ka.out
  obtain ⟨bbc0, bbc1, bbc2, bbc3⟩ := LCb.out _ _ Kb.out
  go_wp2_with (first | (with_reducible refine wpList_load_want (by kernel_rfl) 67 _ rfl (gs) rfl 67 (HC) _ Ks.out Tryd.underlying67 rfl BGs.out.info ?_))
  refine (SV2.out _).mono ?_
  rintro e w13 ⟨rfl, hb⟩
  replace Kg := Lib.hid (Kg.out.below hb Kg.out.lt)
  replace Kp := Lib.hid (Kp.out.below hb Kp.out.lt)
  replace Ka := Lib.hid (Ka.out.below hb Ka.out.lt)
  replace Kb := Lib.hid (Kb.out.below hb Kb.out.lt)
  replace Ks := Lib.hid (Ks.out.below hb Ks.out.lt)
  replace Rw := Lib.hid (Rw.out.mono hb)
  replace B := Lib.hid (B.out.trans (hb.mono B.out.size))
  clear bgc0 bgc1 bgc2 bpc0 bpc1 bac0 bac1 bac2 bac3 bbc0 bbc1 bbc2 bbc3
  clear hb
  obtain ⟨bgc0, bgc1, bgc2⟩ := three Kg.out
  obtain ⟨bpc0, bpc1⟩ := twob Kp.out
  obtain ⟨bac0, bac1, bac2, bac3⟩ := LCa.out _ _ Ka.out
  obtain ⟨bbc0, bbc1, bbc2, bbc3⟩ := LCb.out _ _ Kb.out
  go_wp2
  go_ret
  exact ⟨rfl, B.out⟩
end Le
end Go.Proofs.YteblnmhaohbkkaaDoor
