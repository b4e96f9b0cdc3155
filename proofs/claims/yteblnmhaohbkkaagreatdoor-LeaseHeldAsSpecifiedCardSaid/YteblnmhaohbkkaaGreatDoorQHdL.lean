/- Contracts: the law LeaseHeldAsSpecified. -/
import Derived.Test.YteblnmhaohbkkaaGreatDoorQLeY
import Derived.Test.YteblnmhaohbkkaaGreatDoorQHdB
namespace Go.Proofs.YteblnmhaohbkkaaGreatDoor
set_option linter.unusedVariables false
set_option linter.unusedSimpArgs false
namespace Le
open Go.RowKit Go.Sort
set_option maxRecDepth 100000 in
set_option maxHeartbeats 4000000 in
theorem hs_many (a : Option Addr) (c : Nat) (rg : List Rw) (st he ls le lu lr xs xe un sr ep lo hi cl clo chi cd x : Int) (D V : List Nat) (w : World) (hp : RwA w a rg) (hm : rg.length ≤ 9223372036854775807) (hD : D.length = 16) (hV : V.length = 16) (o1 : i64Ok xs) (o2 : i64Ok xe) (o3 : i64Ok un) (o4 : i64Ok sr) (hla : Hs.LaidC w) (hlk : Hs.LaidK w) (h0 : 20 < rg.length) : Calls Tryz.prog 3 #[.slice a rg.length c, .agg (heldC st he ls le lu lr D), .agg (leaseC xs xe un sr V), .int .i64 ep, per lo hi, clk cl clo chi cd, .int .i64 x] w fun e w' => e = .returned (.bool true) ∧ Below w.heap.size w w' := by
  have HLA := Lib.hid hla
  have HLK := Lib.hid hlk
  have HP := Lib.hid hp
  have SNT := Lib.hid (fun (X : World) (h : Hs.LaidC X) => sanity_any X h)
  have RG := Lib.hid (fun (X : World) (h : RwA X a rg) => ring_any a c rg X h hm)
  obtain ⟨N, hN⟩ : ∃ N, rg.length = N := ⟨_, rfl⟩
  have HE := Lib.hid hN
  simp only [hN] at RG 
  rw [hN]
  rw [hN] at h0
  have t0 : decide ((20 : Int) < (N : Int)) = true := decide_eq_true (by omega)
  clear h0
  clear hN hla hlk hp hm o1 o2 o3 o4
  have BGh := Lib.hid (show BigR 28 (heldC st he ls le lu lr D) from big_held hD)
  obtain ⟨Vh, hVh⟩ : ∃ C, heldC st he ls le lu lr D = C := ⟨_, rfl⟩
  have BGl := Lib.hid (show BigR 26 (leaseC xs xe un sr V) from big_lease hV)
  obtain ⟨Vl, hVl⟩ : ∃ C, leaseC xs xe un sr V = C := ⟨_, rfl⟩
  obtain ⟨G, hG⟩ : ∃ G, w.heap.size = G := ⟨_, rfl⟩
  have HG := Lib.hid hG
  obtain ⟨w0, hw0, Kh, Kl, Kp, Kc, B⟩ : ∃ X, ((((w.alloc (.cells Vh 28)).alloc (.cells Vl 26)).alloc (.cells #[.int .i64 lo, .int .i64 hi] 30)).alloc (.cells #[.int .i64 cl, .int .i64 clo, .int .i64 chi, .int .i64 cd] 32)) = X ∧ Hid (Blk X (G) 28 (heldC st he ls le lu lr D)) ∧ Hid (Blk X (G + 1) 26 (leaseC xs xe un sr V)) ∧ Hid (Blk X (G + 1 + 1) 30 #[.int .i64 lo, .int .i64 hi]) ∧ Hid (Blk X (G + 1 + 1 + 1) 32 #[.int .i64 cl, .int .i64 clo, .int .i64 chi, .int .i64 cd]) ∧ Hid (Below w.heap.size w X) := ⟨_, rfl, Lib.hid (by rw [hVh]; exact (((Blk.new' _ _ _ _ hG rfl).alloc _).alloc _).alloc _), Lib.hid (by rw [hVl]; exact ((Blk.new' _ _ _ _ (by rw [World.size_alloc, hG]) rfl).alloc _).alloc _), Lib.hid ((Blk.new' _ _ _ _ (by rw [World.size_alloc, World.size_alloc, hG]) rfl).alloc _), Lib.hid (Blk.new' _ _ _ _ (by rw [World.size_alloc, World.size_alloc, World.size_alloc, hG]) rfl), Lib.hid (by (repeat' (first | (with_reducible exact Below.refl _ _) | (with_reducible assumption) | (with_reducible refine Below.alloc ?_ ?_ _) | (with_reducible refine Below.drew ?_) | (with_reducible refine below_dn ?_) | (with_reducible refine Below.setCell ?_ ?_ _) | (with_reducible exact Nat.le_refl _) | omega | (simp only [World.size_alloc, World.size_setCell, World.size_drew]; omega) | (simp; omega) | (simp; done))))⟩
  try rw [hVh]
  have EVh := Lib.hid hVh
  clear hVh
  try rw [hVl]
  have EVl := Lib.hid hVl
  clear hVl
  go_enter Tryz.func3, Tryz.ntmps3
  go_upto_region 1 with (fail)
  try rw [hG]
  try rw [hw0]
  clear hw0 hG
  clear hD hV
  obtain ⟨bhc0, bhc1, bhc2⟩ := held_at Kh.out
  obtain ⟨blc0, blc1, blc2, blc3⟩ := lease_cells Kl.out
  obtain ⟨bpc0, bpc1⟩ := twob Kp.out
  obtain ⟨bcc0, bcc1, bcc2, bcc3⟩ := four Kc.out
  go_wp2_with (fail)
  refine (SNT.out _ (HLA.out.mono B.out)).mono ?_
  rintro e w1 ⟨rfl, hb⟩
  replace Kh := Lib.hid (Kh.out.below hb Kh.out.lt)
  replace Kl := Lib.hid (Kl.out.below hb Kl.out.lt)
  replace Kp := Lib.hid (Kp.out.below hb Kp.out.lt)
  replace Kc := Lib.hid (Kc.out.below hb Kc.out.lt)
  replace B := Lib.hid (B.out.trans (hb.mono B.out.size))
  clear bhc0 bhc1 bhc2 blc0 blc1 blc2 blc3 bpc0 bpc1 bcc0 bcc1 bcc2 bcc3
  clear hb
  obtain ⟨bhc0, bhc1, bhc2⟩ := held_at Kh.out
  obtain ⟨blc0, blc1, blc2, blc3⟩ := lease_cells Kl.out
  obtain ⟨bpc0, bpc1⟩ := twob Kp.out
  obtain ⟨bcc0, bcc1, bcc2, bcc3⟩ := four Kc.out
  go_wp2
  go_ret
  exact ⟨rfl, B.out⟩
set_option maxRecDepth 100000 in
set_option maxHeartbeats 4000000 in
theorem hs_noring (a : Option Addr) (c : Nat) (rg : List Rw) (st he ls le lu lr xs xe un sr ep lo hi cl clo chi cd x : Int) (D V : List Nat) (w : World) (hp : RwA w a rg) (hm : rg.length ≤ 9223372036854775807) (hD : D.length = 16) (hV : V.length = 16) (o1 : i64Ok xs) (o2 : i64Ok xe) (o3 : i64Ok un) (o4 : i64Ok sr) (hla : Hs.LaidC w) (hlk : Hs.LaidK w) (h0 : ¬ 20 < rg.length) (hr : ¬ RingOk rg) : Calls Tryz.prog 3 #[.slice a rg.length c, .agg (heldC st he ls le lu lr D), .agg (leaseC xs xe un sr V), .int .i64 ep, per lo hi, clk cl clo chi cd, .int .i64 x] w fun e w' => e = .returned (.bool true) ∧ Below w.heap.size w w' := by
  have HLA := Lib.hid hla
  have HLK := Lib.hid hlk
  have HP := Lib.hid hp
  have SNT := Lib.hid (fun (X : World) (h : Hs.LaidC X) => sanity_any X h)
  have RG := Lib.hid (fun (X : World) (h : RwA X a rg) => ring_any a c rg X h hm)
  rw [show ringB rg = false from decide_eq_false hr] at RG
  obtain ⟨N, hN⟩ : ∃ N, rg.length = N := ⟨_, rfl⟩
  have HE := Lib.hid hN
  simp only [hN] at RG 
  rw [hN]
  rw [hN] at h0
  have t0 : decide ((20 : Int) < (N : Int)) = false := decide_eq_false (by omega)
  clear h0 hr
  clear hN hla hlk hp hm o1 o2 o3 o4
  have BGh := Lib.hid (show BigR 28 (heldC st he ls le lu lr D) from big_held hD)
  obtain ⟨Vh, hVh⟩ : ∃ C, heldC st he ls le lu lr D = C := ⟨_, rfl⟩
  have BGl := Lib.hid (show BigR 26 (leaseC xs xe un sr V) from big_lease hV)
  obtain ⟨Vl, hVl⟩ : ∃ C, leaseC xs xe un sr V = C := ⟨_, rfl⟩
  obtain ⟨G, hG⟩ : ∃ G, w.heap.size = G := ⟨_, rfl⟩
  have HG := Lib.hid hG
  obtain ⟨w0, hw0, Kh, Kl, Kp, Kc, B⟩ : ∃ X, ((((w.alloc (.cells Vh 28)).alloc (.cells Vl 26)).alloc (.cells #[.int .i64 lo, .int .i64 hi] 30)).alloc (.cells #[.int .i64 cl, .int .i64 clo, .int .i64 chi, .int .i64 cd] 32)) = X ∧ Hid (Blk X (G) 28 (heldC st he ls le lu lr D)) ∧ Hid (Blk X (G + 1) 26 (leaseC xs xe un sr V)) ∧ Hid (Blk X (G + 1 + 1) 30 #[.int .i64 lo, .int .i64 hi]) ∧ Hid (Blk X (G + 1 + 1 + 1) 32 #[.int .i64 cl, .int .i64 clo, .int .i64 chi, .int .i64 cd]) ∧ Hid (Below w.heap.size w X) := ⟨_, rfl, Lib.hid (by rw [hVh]; exact (((Blk.new' _ _ _ _ hG rfl).alloc _).alloc _).alloc _), Lib.hid (by rw [hVl]; exact ((Blk.new' _ _ _ _ (by rw [World.size_alloc, hG]) rfl).alloc _).alloc _), Lib.hid ((Blk.new' _ _ _ _ (by rw [World.size_alloc, World.size_alloc, hG]) rfl).alloc _), Lib.hid (Blk.new' _ _ _ _ (by rw [World.size_alloc, World.size_alloc, World.size_alloc, hG]) rfl), Lib.hid (by (repeat' (first | (with_reducible exact Below.refl _ _) | (with_reducible assumption) | (with_reducible refine Below.alloc ?_ ?_ _) | (with_reducible refine Below.drew ?_) | (with_reducible refine below_dn ?_) | (with_reducible refine Below.setCell ?_ ?_ _) | (with_reducible exact Nat.le_refl _) | omega | (simp only [World.size_alloc, World.size_setCell, World.size_drew]; omega) | (simp; omega) | (simp; done))))⟩
  try rw [hVh]
  have EVh := Lib.hid hVh
  clear hVh
  try rw [hVl]
  have EVl := Lib.hid hVl
  clear hVl
  go_enter Tryz.func3, Tryz.ntmps3
  go_upto_region 1 with (fail)
  try rw [hG]
  try rw [hw0]
  clear hw0 hG
  clear hD hV
  obtain ⟨bhc0, bhc1, bhc2⟩ := held_at Kh.out
  obtain ⟨blc0, blc1, blc2, blc3⟩ := lease_cells Kl.out
  obtain ⟨bpc0, bpc1⟩ := twob Kp.out
  obtain ⟨bcc0, bcc1, bcc2, bcc3⟩ := four Kc.out
  go_wp2_with (fail)
  refine (RG.out _ (HP.out.mono B.out)).mono ?_
  rintro e w1 ⟨rfl, hb⟩
  replace Kh := Lib.hid (Kh.out.below hb Kh.out.lt)
  replace Kl := Lib.hid (Kl.out.below hb Kl.out.lt)
  replace Kp := Lib.hid (Kp.out.below hb Kp.out.lt)
  replace Kc := Lib.hid (Kc.out.below hb Kc.out.lt)
  replace B := Lib.hid (B.out.trans (hb.mono B.out.size))
  clear bhc0 bhc1 bhc2 blc0 blc1 blc2 blc3 bpc0 bpc1 bcc0 bcc1 bcc2 bcc3
  clear hb
  obtain ⟨bhc0, bhc1, bhc2⟩ := held_at Kh.out
  obtain ⟨blc0, blc1, blc2, blc3⟩ := lease_cells Kl.out
  obtain ⟨bpc0, bpc1⟩ := twob Kp.out
  obtain ⟨bcc0, bcc1, bcc2, bcc3⟩ := four Kc.out
  go_wp2_with (fail)
  refine (SNT.out _ (HLA.out.mono B.out)).mono ?_
  rintro e w2 ⟨rfl, hb⟩
  replace Kh := Lib.hid (Kh.out.below hb Kh.out.lt)
  replace Kl := Lib.hid (Kl.out.below hb Kl.out.lt)
  replace Kp := Lib.hid (Kp.out.below hb Kp.out.lt)
  replace Kc := Lib.hid (Kc.out.below hb Kc.out.lt)
  replace B := Lib.hid (B.out.trans (hb.mono B.out.size))
  clear bhc0 bhc1 bhc2 blc0 blc1 blc2 blc3 bpc0 bpc1 bcc0 bcc1 bcc2 bcc3
  clear hb
  obtain ⟨bhc0, bhc1, bhc2⟩ := held_at Kh.out
  obtain ⟨blc0, blc1, blc2, blc3⟩ := lease_cells Kl.out
  obtain ⟨bpc0, bpc1⟩ := twob Kp.out
  obtain ⟨bcc0, bcc1, bcc2, bcc3⟩ := four Kc.out
  go_wp2
  go_ret
  exact ⟨rfl, B.out⟩
set_option maxRecDepth 100000 in
set_option maxHeartbeats 4000000 in
theorem hs_ok (a : Option Addr) (c : Nat) (rg : List Rw) (st he ls le lu lr xs xe un sr ep lo hi cl clo chi cd x : Int) (D V : List Nat) (w : World) (hp : RwA w a rg) (hm : rg.length ≤ 9223372036854775807) (hD : D.length = 16) (hV : V.length = 16) (o1 : i64Ok xs) (o2 : i64Ok xe) (o3 : i64Ok un) (o4 : i64Ok sr) (hla : Hs.LaidC w) (hlk : Hs.LaidK w) (h0 : ¬ 20 < rg.length) (hr : RingOk rg) : Calls Tryz.prog 3 #[.slice a rg.length c, .agg (heldC st he ls le lu lr D), .agg (leaseC xs xe un sr V), .int .i64 ep, per lo hi, clk cl clo chi cd, .int .i64 x] w fun e w' => e = .returned (.bool true) ∧ Below w.heap.size w w' := by
  have HLA := Lib.hid hla
  have HLK := Lib.hid hlk
  have HP := Lib.hid hp
  have SNT := Lib.hid (fun (X : World) (h : Hs.LaidC X) => sanity_any X h)
  have RG := Lib.hid (fun (X : World) (h : RwA X a rg) => ring_any a c rg X h hm)
  rw [show ringB rg = true from decide_eq_true hr] at RG
  obtain ⟨st1, he1, ls1, le1, lu1, lr1, e1, D1, hD1, P1, Q1⟩ := both_hear st he ls le lu lr ep D hD
  have BN1 := Lib.hid (show BigR 28 (heldC st1 he1 ls1 le1 lu1 lr1 D1) from big_held hD1)
  have BK1 := Lib.hid (big_kept st1 he1 ls1 le1 lu1 lr1 e1 hD1)
  have EQ1 := Lib.hid (fun (W : World) => held_eq st1 he1 ls1 le1 lu1 lr1 D1 W hD1)
  have MI1 := Lib.hid (fun (X : World) (g : Nat) (h : Blk X g 42 (keptC st1 he1 ls1 le1 lu1 lr1 D1 e1)) => kept_mid h)
  have KE1 := Lib.hid (fun (X : World) (g : Nat) (h : Blk X g 42 (keptC st1 he1 ls1 le1 lu1 lr1 D1 e1)) => kept_e hD1 h)
  replace P1 := Lib.hid P1
  replace Q1 := Lib.hid Q1
  obtain ⟨HC1, hHC1⟩ : ∃ C, heldC st1 he1 ls1 le1 lu1 lr1 D1 = C := ⟨_, rfl⟩
  obtain ⟨KC1, hKC1⟩ : ∃ C, keptC st1 he1 ls1 le1 lu1 lr1 D1 e1 = C := ⟨_, rfl⟩
  simp only [hHC1] at P1 BN1 EQ1 MI1
  simp only [hKC1] at Q1 BK1 MI1 KE1
  clear hHC1 hKC1
  obtain ⟨st2, he2, ls2, le2, lu2, lr2, e2, D2, hD2, P2, Q2⟩ := both_take a c rg hr st he ls le lu lr xs xe un sr D V hD hV o1 o2 o3 o4
  have BN2 := Lib.hid (show BigR 28 (heldC st2 he2 ls2 le2 lu2 lr2 D2) from big_held hD2)
  have BK2 := Lib.hid (big_kept st2 he2 ls2 le2 lu2 lr2 e2 hD2)
  have EQ2 := Lib.hid (fun (W : World) => held_eq st2 he2 ls2 le2 lu2 lr2 D2 W hD2)
  have MI2 := Lib.hid (fun (X : World) (g : Nat) (h : Blk X g 42 (keptC st2 he2 ls2 le2 lu2 lr2 D2 e2)) => kept_mid h)
  have KE2 := Lib.hid (fun (X : World) (g : Nat) (h : Blk X g 42 (keptC st2 he2 ls2 le2 lu2 lr2 D2 e2)) => kept_e hD2 h)
  replace P2 := Lib.hid P2
  replace Q2 := Lib.hid Q2
  obtain ⟨HC2, hHC2⟩ : ∃ C, heldC st2 he2 ls2 le2 lu2 lr2 D2 = C := ⟨_, rfl⟩
  obtain ⟨KC2, hKC2⟩ : ∃ C, keptC st2 he2 ls2 le2 lu2 lr2 D2 e2 = C := ⟨_, rfl⟩
  simp only [hHC2] at P2 BN2 EQ2 MI2
  simp only [hKC2] at Q2 BK2 MI2 KE2
  clear hHC2 hKC2
  obtain ⟨n5, e5, P5, Q5⟩ := both_worth st he ls le lu lr D cl clo chi cd x hD
  replace P5 := Lib.hid P5
  replace Q5 := Lib.hid Q5
  have S1 := Lib.hid (fun (X : World) => serve_any st he ls le lu lr lo hi D X hD)
  have S2 := Lib.hid (fun (X : World) => rserve_any st he ls le lu lr lo hi D X hD)
  obtain ⟨sb, hsb⟩ : ∃ b, serveB st he lu lo hi = b := ⟨_, rfl⟩
  simp only [hsb] at S1 S2
  clear hsb hr
  obtain ⟨N, hN⟩ : ∃ N, rg.length = N := ⟨_, rfl⟩
  have HE := Lib.hid hN
  simp only [hN] at RG P2 Q2
  rw [hN]
  rw [hN] at h0
  have t0 : decide ((20 : Int) < (N : Int)) = false := decide_eq_false (by omega)
  clear h0 hD1 hD2
  clear hN hla hlk hp hm o1 o2 o3 o4
  have BGh := Lib.hid (show BigR 28 (heldC st he ls le lu lr D) from big_held hD)
  obtain ⟨Vh, hVh⟩ : ∃ C, heldC st he ls le lu lr D = C := ⟨_, rfl⟩
  have BGl := Lib.hid (show BigR 26 (leaseC xs xe un sr V) from big_lease hV)
  obtain ⟨Vl, hVl⟩ : ∃ C, leaseC xs xe un sr V = C := ⟨_, rfl⟩
  obtain ⟨G, hG⟩ : ∃ G, w.heap.size = G := ⟨_, rfl⟩
  have HG := Lib.hid hG
  obtain ⟨w0, hw0, Kh, Kl, Kp, Kc, B⟩ : ∃ X, ((((w.alloc (.cells Vh 28)).alloc (.cells Vl 26)).alloc (.cells #[.int .i64 lo, .int .i64 hi] 30)).alloc (.cells #[.int .i64 cl, .int .i64 clo, .int .i64 chi, .int .i64 cd] 32)) = X ∧ Hid (Blk X (G) 28 (heldC st he ls le lu lr D)) ∧ Hid (Blk X (G + 1) 26 (leaseC xs xe un sr V)) ∧ Hid (Blk X (G + 1 + 1) 30 #[.int .i64 lo, .int .i64 hi]) ∧ Hid (Blk X (G + 1 + 1 + 1) 32 #[.int .i64 cl, .int .i64 clo, .int .i64 chi, .int .i64 cd]) ∧ Hid (Below w.heap.size w X) := ⟨_, rfl, Lib.hid (by rw [hVh]; exact (((Blk.new' _ _ _ _ hG rfl).alloc _).alloc _).alloc _), Lib.hid (by rw [hVl]; exact ((Blk.new' _ _ _ _ (by rw [World.size_alloc, hG]) rfl).alloc _).alloc _), Lib.hid ((Blk.new' _ _ _ _ (by rw [World.size_alloc, World.size_alloc, hG]) rfl).alloc _), Lib.hid (Blk.new' _ _ _ _ (by rw [World.size_alloc, World.size_alloc, World.size_alloc, hG]) rfl), Lib.hid (by (repeat' (first | (with_reducible exact Below.refl _ _) | (with_reducible assumption) | (with_reducible refine Below.alloc ?_ ?_ _) | (with_reducible refine Below.drew ?_) | (with_reducible refine below_dn ?_) | (with_reducible refine Below.setCell ?_ ?_ _) | (with_reducible exact Nat.le_refl _) | omega | (simp only [World.size_alloc, World.size_setCell, World.size_drew]; omega) | (simp; omega) | (simp; done))))⟩
  try rw [hVh]
  have EVh := Lib.hid hVh
  clear hVh
  try rw [hVl]
  have EVl := Lib.hid hVl
  clear hVl
  go_enter Tryz.func3, Tryz.ntmps3
  go_upto_region 1 with (fail)
  try rw [hG]
  try rw [hw0]
  clear hw0 hG
  clear hD hV
  obtain ⟨bhc0, bhc1, bhc2⟩ := held_at Kh.out
  obtain ⟨blc0, blc1, blc2, blc3⟩ := lease_cells Kl.out
  obtain ⟨bpc0, bpc1⟩ := twob Kp.out
  obtain ⟨bcc0, bcc1, bcc2, bcc3⟩ := four Kc.out
  go_wp2_with (fail)
  refine (RG.out _ (HP.out.mono B.out)).mono ?_
  rintro e w1 ⟨rfl, hb⟩
  replace Kh := Lib.hid (Kh.out.below hb Kh.out.lt)
  replace Kl := Lib.hid (Kl.out.below hb Kl.out.lt)
  replace Kp := Lib.hid (Kp.out.below hb Kp.out.lt)
  replace Kc := Lib.hid (Kc.out.below hb Kc.out.lt)
  replace B := Lib.hid (B.out.trans (hb.mono B.out.size))
  clear bhc0 bhc1 bhc2 blc0 blc1 blc2 blc3 bpc0 bpc1 bcc0 bcc1 bcc2 bcc3
  clear hb
  obtain ⟨bhc0, bhc1, bhc2⟩ := held_at Kh.out
  obtain ⟨blc0, blc1, blc2, blc3⟩ := lease_cells Kl.out
  obtain ⟨bpc0, bpc1⟩ := twob Kp.out
  obtain ⟨bcc0, bcc1, bcc2, bcc3⟩ := four Kc.out
  go_wp2_with (first | (with_reducible refine Hs.wpList_load_all rfl 28 _ rfl (G) rfl 28 (heldC st he ls le lu lr D) _ (Blk.hs Kh.out) Tryz.underlying28 BGh.out.info ?_))
  refine (P1.out _ trivial).mono ?_
  rintro e w2 ⟨rfl, hb⟩
  replace Kh := Lib.hid (Kh.out.below hb Kh.out.lt)
  replace Kl := Lib.hid (Kl.out.below hb Kl.out.lt)
  replace Kp := Lib.hid (Kp.out.below hb Kp.out.lt)
  replace Kc := Lib.hid (Kc.out.below hb Kc.out.lt)
  replace B := Lib.hid (B.out.trans (hb.mono B.out.size))
  clear bhc0 bhc1 bhc2 blc0 blc1 blc2 blc3 bpc0 bpc1 bcc0 bcc1 bcc2 bcc3
  clear hb
  obtain ⟨bhc0, bhc1, bhc2⟩ := held_at Kh.out
  obtain ⟨blc0, blc1, blc2, blc3⟩ := lease_cells Kl.out
  obtain ⟨bpc0, bpc1⟩ := twob Kp.out
  obtain ⟨bcc0, bcc1, bcc2, bcc3⟩ := four Kc.out
  obtain ⟨gi, hg⟩ : ∃ G, w2.heap.size = G := ⟨_, rfl⟩
  have Zi := Lib.hid (show Blk (w2.alloc (.cells heldZ 28)) gi 28 heldZ from Blk.new' _ _ _ _ hg rfl)
  have Yi := Zi
  replace Zi := Lib.hid (show Blk ((w2.alloc (.cells heldZ 28)).setRow gi HC1) gi 28 HC1 from Zi.out.row_ _)
  have hb : Below w2.heap.size w2 ((w2.alloc (.cells heldZ 28)).setRow gi HC1) := (below_setRow ((Below.refl _ w2).alloc (Nat.le_refl _) _) (show w2.heap.size ≤ gi by omega) _)
  have Li := Lib.hid (show w.heap.size ≤ gi from by rw [← hg]; exact B.out.size)
  replace Kh := Lib.hid (Kh.out.below hb Kh.out.lt)
  replace Kl := Lib.hid (Kl.out.below hb Kl.out.lt)
  replace Kp := Lib.hid (Kp.out.below hb Kp.out.lt)
  replace Kc := Lib.hid (Kc.out.below hb Kc.out.lt)
  replace B := Lib.hid (B.out.trans (hb.mono B.out.size))
  go_upto_region 4 with (first | (with_reducible refine Hs.wpList_store_blk rfl 28 _ _ rfl gi 28 heldZ HC1 rfl rfl (Blk.hs Yi.out) BN1.out.info (big_heldZ.same BN1.out) BN1.out.one rfl ?_))
  try rw [hg]
  generalize hw : ((w2.alloc (.cells heldZ 28)).setRow gi HC1) = w3 at Zi Kh Kl Kp Kc B ⊢
  clear bhc0 bhc1 bhc2 blc0 blc1 blc2 blc3 bpc0 bpc1 bcc0 bcc1 bcc2 bcc3
  have Ki := Zi
  clear hb hw hg Zi Yi
  obtain ⟨bhc0, bhc1, bhc2⟩ := held_at Kh.out
  obtain ⟨blc0, blc1, blc2, blc3⟩ := lease_cells Kl.out
  obtain ⟨bpc0, bpc1⟩ := twob Kp.out
  obtain ⟨bcc0, bcc1, bcc2, bcc3⟩ := four Kc.out
  go_wp2_with (first | (with_reducible refine Hs.wpList_load_all rfl 28 _ rfl (G) rfl 28 (heldC st he ls le lu lr D) _ (Blk.hs Kh.out) Tryz.underlying28 BGh.out.info ?_) | (with_reducible refine Hs.wpList_load_all rfl 26 _ rfl (G + 1) rfl 26 (leaseC xs xe un sr V) _ (Blk.hs Kl.out) Tryz.underlying26 BGl.out.info ?_))
  refine (P2.out _ ⟨(HP.out.mono B.out), HLA.out.mono B.out⟩).mono ?_
  rintro e w4 ⟨rfl, hb⟩
  replace Kh := Lib.hid (Kh.out.below hb Kh.out.lt)
  replace Kl := Lib.hid (Kl.out.below hb Kl.out.lt)
  replace Kp := Lib.hid (Kp.out.below hb Kp.out.lt)
  replace Kc := Lib.hid (Kc.out.below hb Kc.out.lt)
  replace Ki := Lib.hid (Ki.out.below hb Ki.out.lt)
  replace B := Lib.hid (B.out.trans (hb.mono B.out.size))
  clear bhc0 bhc1 bhc2 blc0 blc1 blc2 blc3 bpc0 bpc1 bcc0 bcc1 bcc2 bcc3
  clear hb
  obtain ⟨bhc0, bhc1, bhc2⟩ := held_at Kh.out
  obtain ⟨blc0, blc1, blc2, blc3⟩ := lease_cells Kl.out
  obtain ⟨bpc0, bpc1⟩ := twob Kp.out
  obtain ⟨bcc0, bcc1, bcc2, bcc3⟩ := four Kc.out
  obtain ⟨gj, hg⟩ : ∃ G, w4.heap.size = G := ⟨_, rfl⟩
  have Zj := Lib.hid (show Blk (w4.alloc (.cells heldZ 28)) gj 28 heldZ from Blk.new' _ _ _ _ hg rfl)
  have Yj := Zj
  replace Zj := Lib.hid (show Blk ((w4.alloc (.cells heldZ 28)).setRow gj HC2) gj 28 HC2 from Zj.out.row_ _)
  have hb : Below w4.heap.size w4 ((w4.alloc (.cells heldZ 28)).setRow gj HC2) := (below_setRow ((Below.refl _ w4).alloc (Nat.le_refl _) _) (show w4.heap.size ≤ gj by omega) _)
  have Lj := Lib.hid (show w.heap.size ≤ gj from by rw [← hg]; exact B.out.size)
  replace Kh := Lib.hid (Kh.out.below hb Kh.out.lt)
  replace Kl := Lib.hid (Kl.out.below hb Kl.out.lt)
  replace Kp := Lib.hid (Kp.out.below hb Kp.out.lt)
  replace Kc := Lib.hid (Kc.out.below hb Kc.out.lt)
  replace Ki := Lib.hid (Ki.out.below hb Ki.out.lt)
  replace B := Lib.hid (B.out.trans (hb.mono B.out.size))
  go_upto_region 5 with (first | (with_reducible refine Hs.wpList_store_blk rfl 28 _ _ rfl gj 28 heldZ HC2 rfl rfl (Blk.hs Yj.out) BN2.out.info (big_heldZ.same BN2.out) BN2.out.one rfl ?_))
  try rw [hg]
  generalize hw : ((w4.alloc (.cells heldZ 28)).setRow gj HC2) = w5 at Zj Kh Kl Kp Kc Ki B ⊢
  clear bhc0 bhc1 bhc2 blc0 blc1 blc2 blc3 bpc0 bpc1 bcc0 bcc1 bcc2 bcc3
  have Kj := Zj
  clear hb hw hg Zj Yj
  obtain ⟨bhc0, bhc1, bhc2⟩ := held_at Kh.out
  obtain ⟨blc0, blc1, blc2, blc3⟩ := lease_cells Kl.out
  obtain ⟨bpc0, bpc1⟩ := twob Kp.out
  obtain ⟨bcc0, bcc1, bcc2, bcc3⟩ := four Kc.out
  go_wp2_with (first | (with_reducible refine Hs.wpList_load_all rfl 28 _ rfl (G) rfl 28 (heldC st he ls le lu lr D) _ (Blk.hs Kh.out) Tryz.underlying28 BGh.out.info ?_))
  refine (P5.out _).mono ?_
  rintro e w6 ⟨rfl, hb⟩
  replace Kh := Lib.hid (Kh.out.below hb Kh.out.lt)
  replace Kl := Lib.hid (Kl.out.below hb Kl.out.lt)
  replace Kp := Lib.hid (Kp.out.below hb Kp.out.lt)
  replace Kc := Lib.hid (Kc.out.below hb Kc.out.lt)
  replace Ki := Lib.hid (Ki.out.below hb Ki.out.lt)
  replace Kj := Lib.hid (Kj.out.below hb Kj.out.lt)
  replace B := Lib.hid (B.out.trans (hb.mono B.out.size))
  clear bhc0 bhc1 bhc2 blc0 blc1 blc2 blc3 bpc0 bpc1 bcc0 bcc1 bcc2 bcc3
  clear hb
  obtain ⟨bhc0, bhc1, bhc2⟩ := held_at Kh.out
  obtain ⟨blc0, blc1, blc2, blc3⟩ := lease_cells Kl.out
  obtain ⟨bpc0, bpc1⟩ := twob Kp.out
  obtain ⟨bcc0, bcc1, bcc2, bcc3⟩ := four Kc.out
  go_wp2_with (first | (with_reducible refine Hs.wpList_load_all rfl 28 _ rfl (G) rfl 28 (heldC st he ls le lu lr D) _ (Blk.hs Kh.out) Tryz.underlying28 BGh.out.info ?_))
  refine (Q1.out _ trivial).mono ?_
  rintro e w7 ⟨rfl, hb⟩
  replace Kh := Lib.hid (Kh.out.below hb Kh.out.lt)
  replace Kl := Lib.hid (Kl.out.below hb Kl.out.lt)
  replace Kp := Lib.hid (Kp.out.below hb Kp.out.lt)
  replace Kc := Lib.hid (Kc.out.below hb Kc.out.lt)
  replace Ki := Lib.hid (Ki.out.below hb Ki.out.lt)
  replace Kj := Lib.hid (Kj.out.below hb Kj.out.lt)
  replace B := Lib.hid (B.out.trans (hb.mono B.out.size))
  clear bhc0 bhc1 bhc2 blc0 blc1 blc2 blc3 bpc0 bpc1 bcc0 bcc1 bcc2 bcc3
  clear hb
  obtain ⟨bhc0, bhc1, bhc2⟩ := held_at Kh.out
  obtain ⟨blc0, blc1, blc2, blc3⟩ := lease_cells Kl.out
  obtain ⟨bpc0, bpc1⟩ := twob Kp.out
  obtain ⟨bcc0, bcc1, bcc2, bcc3⟩ := four Kc.out
  obtain ⟨gu, hg⟩ : ∃ G, w7.heap.size = G := ⟨_, rfl⟩
  have Zu := Lib.hid (show Blk (w7.alloc (.cells keptZ 42)) gu 42 keptZ from Blk.new' _ _ _ _ hg rfl)
  have Yu := Zu
  replace Zu := Lib.hid (show Blk ((w7.alloc (.cells keptZ 42)).setRow gu KC1) gu 42 KC1 from Zu.out.row_ _)
  have hb : Below w7.heap.size w7 ((w7.alloc (.cells keptZ 42)).setRow gu KC1) := (below_setRow ((Below.refl _ w7).alloc (Nat.le_refl _) _) (show w7.heap.size ≤ gu by omega) _)
  have Lu := Lib.hid (show w.heap.size ≤ gu from by rw [← hg]; exact B.out.size)
  replace Kh := Lib.hid (Kh.out.below hb Kh.out.lt)
  replace Kl := Lib.hid (Kl.out.below hb Kl.out.lt)
  replace Kp := Lib.hid (Kp.out.below hb Kp.out.lt)
  replace Kc := Lib.hid (Kc.out.below hb Kc.out.lt)
  replace Ki := Lib.hid (Ki.out.below hb Ki.out.lt)
  replace Kj := Lib.hid (Kj.out.below hb Kj.out.lt)
  replace B := Lib.hid (B.out.trans (hb.mono B.out.size))
  go_upto_region 7 with (first | (with_reducible refine Hs.wpList_store_blk rfl 42 _ _ rfl gu 42 keptZ KC1 rfl rfl (Blk.hs Yu.out) BK1.out.info (big_keptZ.same BK1.out) BK1.out.one rfl ?_))
  try rw [hg]
  generalize hw : ((w7.alloc (.cells keptZ 42)).setRow gu KC1) = w8 at Zu Kh Kl Kp Kc Ki Kj B ⊢
  clear bhc0 bhc1 bhc2 blc0 blc1 blc2 blc3 bpc0 bpc1 bcc0 bcc1 bcc2 bcc3
  have Ku := Zu
  clear hb hw hg Zu Yu
  obtain ⟨bhc0, bhc1, bhc2⟩ := held_at Kh.out
  obtain ⟨blc0, blc1, blc2, blc3⟩ := lease_cells Kl.out
  obtain ⟨bpc0, bpc1⟩ := twob Kp.out
  obtain ⟨bcc0, bcc1, bcc2, bcc3⟩ := four Kc.out
  go_wp2_with (first | (with_reducible refine Hs.wpList_load_all rfl 28 _ rfl (G) rfl 28 (heldC st he ls le lu lr D) _ (Blk.hs Kh.out) Tryz.underlying28 BGh.out.info ?_) | (with_reducible refine Hs.wpList_load_all rfl 26 _ rfl (G + 1) rfl 26 (leaseC xs xe un sr V) _ (Blk.hs Kl.out) Tryz.underlying26 BGl.out.info ?_))
  refine (Q2.out _ ⟨(HP.out.mono B.out), HLK.out.mono B.out⟩).mono ?_
  rintro e w9 ⟨rfl, hb⟩
  replace Kh := Lib.hid (Kh.out.below hb Kh.out.lt)
  replace Kl := Lib.hid (Kl.out.below hb Kl.out.lt)
  replace Kp := Lib.hid (Kp.out.below hb Kp.out.lt)
  replace Kc := Lib.hid (Kc.out.below hb Kc.out.lt)
  replace Ki := Lib.hid (Ki.out.below hb Ki.out.lt)
  replace Kj := Lib.hid (Kj.out.below hb Kj.out.lt)
  replace Ku := Lib.hid (Ku.out.below hb Ku.out.lt)
  replace B := Lib.hid (B.out.trans (hb.mono B.out.size))
  clear bhc0 bhc1 bhc2 blc0 blc1 blc2 blc3 bpc0 bpc1 bcc0 bcc1 bcc2 bcc3
  clear hb
  obtain ⟨bhc0, bhc1, bhc2⟩ := held_at Kh.out
  obtain ⟨blc0, blc1, blc2, blc3⟩ := lease_cells Kl.out
  obtain ⟨bpc0, bpc1⟩ := twob Kp.out
  obtain ⟨bcc0, bcc1, bcc2, bcc3⟩ := four Kc.out
  obtain ⟨gv, hg⟩ : ∃ G, w9.heap.size = G := ⟨_, rfl⟩
  have Zv := Lib.hid (show Blk (w9.alloc (.cells keptZ 42)) gv 42 keptZ from Blk.new' _ _ _ _ hg rfl)
  have Yv := Zv
  replace Zv := Lib.hid (show Blk ((w9.alloc (.cells keptZ 42)).setRow gv KC2) gv 42 KC2 from Zv.out.row_ _)
  have hb : Below w9.heap.size w9 ((w9.alloc (.cells keptZ 42)).setRow gv KC2) := (below_setRow ((Below.refl _ w9).alloc (Nat.le_refl _) _) (show w9.heap.size ≤ gv by omega) _)
  have Lv := Lib.hid (show w.heap.size ≤ gv from by rw [← hg]; exact B.out.size)
  replace Kh := Lib.hid (Kh.out.below hb Kh.out.lt)
  replace Kl := Lib.hid (Kl.out.below hb Kl.out.lt)
  replace Kp := Lib.hid (Kp.out.below hb Kp.out.lt)
  replace Kc := Lib.hid (Kc.out.below hb Kc.out.lt)
  replace Ki := Lib.hid (Ki.out.below hb Ki.out.lt)
  replace Kj := Lib.hid (Kj.out.below hb Kj.out.lt)
  replace Ku := Lib.hid (Ku.out.below hb Ku.out.lt)
  replace B := Lib.hid (B.out.trans (hb.mono B.out.size))
  go_upto_region 8 with (first | (with_reducible refine Hs.wpList_store_blk rfl 42 _ _ rfl gv 42 keptZ KC2 rfl rfl (Blk.hs Yv.out) BK2.out.info (big_keptZ.same BK2.out) BK2.out.one rfl ?_))
  try rw [hg]
  generalize hw : ((w9.alloc (.cells keptZ 42)).setRow gv KC2) = w10 at Zv Kh Kl Kp Kc Ki Kj Ku B ⊢
  clear bhc0 bhc1 bhc2 blc0 blc1 blc2 blc3 bpc0 bpc1 bcc0 bcc1 bcc2 bcc3
  have Kv := Zv
  clear hb hw hg Zv Yv
  obtain ⟨bhc0, bhc1, bhc2⟩ := held_at Kh.out
  obtain ⟨blc0, blc1, blc2, blc3⟩ := lease_cells Kl.out
  obtain ⟨bpc0, bpc1⟩ := twob Kp.out
  obtain ⟨bcc0, bcc1, bcc2, bcc3⟩ := four Kc.out
  go_wp2_with (first | (with_reducible refine Hs.wpList_load_all rfl 28 _ rfl (G) rfl 28 (heldC st he ls le lu lr D) _ (Blk.hs Kh.out) Tryz.underlying28 BGh.out.info ?_))
  refine (Q5.out _).mono ?_
  rintro e w11 ⟨rfl, hb⟩
  replace Kh := Lib.hid (Kh.out.below hb Kh.out.lt)
  replace Kl := Lib.hid (Kl.out.below hb Kl.out.lt)
  replace Kp := Lib.hid (Kp.out.below hb Kp.out.lt)
  replace Kc := Lib.hid (Kc.out.below hb Kc.out.lt)
  replace Ki := Lib.hid (Ki.out.below hb Ki.out.lt)
  replace Kj := Lib.hid (Kj.out.below hb Kj.out.lt)
  replace Ku := Lib.hid (Ku.out.below hb Ku.out.lt)
  replace Kv := Lib.hid (Kv.out.below hb Kv.out.lt)
  replace B := Lib.hid (B.out.trans (hb.mono B.out.size))
  clear bhc0 bhc1 bhc2 blc0 blc1 blc2 blc3 bpc0 bpc1 bcc0 bcc1 bcc2 bcc3
  clear hb
  obtain ⟨bhc0, bhc1, bhc2⟩ := held_at Kh.out
  obtain ⟨blc0, blc1, blc2, blc3⟩ := lease_cells Kl.out
  obtain ⟨bpc0, bpc1⟩ := twob Kp.out
  obtain ⟨bcc0, bcc1, bcc2, bcc3⟩ := four Kc.out
  obtain ⟨gq, hgq⟩ : ∃ G, w11.heap.size = G := ⟨_, rfl⟩
  have Kq := Lib.hid (show Blk (w11.alloc (.cells #[.int .i64 n5, .int .i64 e5] 46)) gq 46 #[.int .i64 n5, .int .i64 e5] from Blk.new' w11 _ _ _ hgq rfl)
  have Nhq := Lib.hid (show G < gq from by rw [← hgq]; exact Kh.out.lt)
  replace Kh := Lib.hid (Kh.out.alloc (.cells #[.int .i64 n5, .int .i64 e5] 46))
  have Nlq := Lib.hid (show G + 1 < gq from by rw [← hgq]; exact Kl.out.lt)
  replace Kl := Lib.hid (Kl.out.alloc (.cells #[.int .i64 n5, .int .i64 e5] 46))
  have Npq := Lib.hid (show G + 1 + 1 < gq from by rw [← hgq]; exact Kp.out.lt)
  replace Kp := Lib.hid (Kp.out.alloc (.cells #[.int .i64 n5, .int .i64 e5] 46))
  have Ncq := Lib.hid (show G + 1 + 1 + 1 < gq from by rw [← hgq]; exact Kc.out.lt)
  replace Kc := Lib.hid (Kc.out.alloc (.cells #[.int .i64 n5, .int .i64 e5] 46))
  have Niq := Lib.hid (show gi < gq from by rw [← hgq]; exact Ki.out.lt)
  replace Ki := Lib.hid (Ki.out.alloc (.cells #[.int .i64 n5, .int .i64 e5] 46))
  have Njq := Lib.hid (show gj < gq from by rw [← hgq]; exact Kj.out.lt)
  replace Kj := Lib.hid (Kj.out.alloc (.cells #[.int .i64 n5, .int .i64 e5] 46))
  have Nuq := Lib.hid (show gu < gq from by rw [← hgq]; exact Ku.out.lt)
  replace Ku := Lib.hid (Ku.out.alloc (.cells #[.int .i64 n5, .int .i64 e5] 46))
  have Nvq := Lib.hid (show gv < gq from by rw [← hgq]; exact Kv.out.lt)
  replace Kv := Lib.hid (Kv.out.alloc (.cells #[.int .i64 n5, .int .i64 e5] 46))
  have Lq := Lib.hid (show w.heap.size ≤ gq from by rw [← hgq]; exact B.out.size)
  replace B := Lib.hid (B.out.alloc B.out.size (.cells #[.int .i64 n5, .int .i64 e5] 46))
  go_upto_region 9 with (fail)
  try rw [hgq]
  generalize hw : w11.alloc (.cells #[.int .i64 n5, .int .i64 e5] 46) = w12 at Kh Kl Kp Kc Ki Kj Ku Kv Kq  B ⊢
  clear bhc0 bhc1 bhc2 blc0 blc1 blc2 blc3 bpc0 bpc1 bcc0 bcc1 bcc2 bcc3
  clear hw hgq
  have eq1 := EQ1.out
  have eq2 := EQ2.out
  refine Ph.start (S := Till 31 (fun _ => True) (fun W => Below w12.heap.size w12 W)) (by kernel_rfl) (Till.low trivial (Below.refl _ _).drew) (fun _ => ?_)
  have BD := Lib.hid (Below.refl w12.heap.size w12).drew
  generalize w12.drew = v1 at BD ⊢
  refine Ph.ready (rs := [0]) (by kernel_rfl) (by simp) (All.cons rfl (fun K hK => ?_) (All.nil))
  go_simp
  refine (SNT.out _ (HLA.out.mono (bt B.out BD.out))).mono ?_
  rintro e v2 ⟨rfl, hb⟩
  replace BD := Lib.hid (bt BD.out hb)
  clear hb
  go_wp2_with fail
  refine hK _ _ (Till.low trivial BD.out) (fun _ => ?_)
  clear hK K
  refine Ph.takeP (i := 1) (v := .bool true) rfl (fun W => by go_simp) (Till.low trivial BD.out) ?_
  (try simp only [Act.put, List.getElem_toArray, List.getElem_cons_succ, List.getElem_cons_zero, List.setIfInBounds_toArray, List.set_cons_zero, List.set_cons_succ])
  refine Ph.takeU (i := 2) (v := .agg (HC1)) rfl (Or.inl ⟨by rfl, fun W hW => exec_load_row 28 _ rfl (gi) rfl 28 (HC1) (0, 0) _ (Ki.out.below hW Ki.out.lt) Tryz.underlying28 rfl BN1.out.info⟩) (Till.low trivial BD.out) ?_
  (try simp only [Act.put, List.getElem_toArray, List.getElem_cons_succ, List.getElem_cons_zero, List.setIfInBounds_toArray, List.set_cons_zero, List.set_cons_succ])
  refine Ph.takeP (i := 3) (v := .pointer (some ⟨gu, 0, none⟩)) rfl (fun W => by go_simp) (Till.low trivial BD.out) ?_
  (try simp only [Act.put, List.getElem_toArray, List.getElem_cons_succ, List.getElem_cons_zero, List.setIfInBounds_toArray, List.set_cons_zero, List.set_cons_succ])
  refine Ph.takeU (i := 4) (v := .agg HC1) rfl (Or.inl ⟨by rfl, fun W hW => exec_load_midw 28 _ rfl (gu) 0 rfl HC1 _ (MI1.out _ _ (Ku.out.below hW Ku.out.lt)) Tryz.underlying28 rfl BN1.out.info⟩) (Till.low trivial BD.out) ?_
  (try simp only [Act.put, List.getElem_toArray, List.getElem_cons_succ, List.getElem_cons_zero, List.setIfInBounds_toArray, List.set_cons_zero, List.set_cons_succ])
  refine Ph.takeP (i := 5) (v := .bool true) rfl (fun W => by go_simp) (Till.low trivial BD.out) ?_
  (try simp only [Act.put, List.getElem_toArray, List.getElem_cons_succ, List.getElem_cons_zero, List.setIfInBounds_toArray, List.set_cons_zero, List.set_cons_succ])
  refine Ph.takeP (i := 6) (v := .bool true) rfl (fun W => by go_simp) (Till.low trivial BD.out) ?_
  (try simp only [Act.put, List.getElem_toArray, List.getElem_cons_succ, List.getElem_cons_zero, List.setIfInBounds_toArray, List.set_cons_zero, List.set_cons_succ])
  refine Ph.takeP (i := 7) (v := .bool true) rfl (fun W => by go_simp) (Till.low trivial BD.out) ?_
  (try simp only [Act.put, List.getElem_toArray, List.getElem_cons_succ, List.getElem_cons_zero, List.setIfInBounds_toArray, List.set_cons_zero, List.set_cons_succ])
  refine Ph.takeP (i := 8) (v := .int .i64 e1) rfl (fun W => by go_simp) (Till.low trivial BD.out) ?_
  (try simp only [Act.put, List.getElem_toArray, List.getElem_cons_succ, List.getElem_cons_zero, List.setIfInBounds_toArray, List.set_cons_zero, List.set_cons_succ])
  refine Ph.takeP (i := 9) (v := .pointer (some ⟨gu, 22, none⟩)) rfl (fun W => by go_simp) (Till.low trivial BD.out) ?_
  (try simp only [Act.put, List.getElem_toArray, List.getElem_cons_succ, List.getElem_cons_zero, List.setIfInBounds_toArray, List.set_cons_zero, List.set_cons_succ])
  refine Ph.takeU (i := 10) (v := .int .i64 e1) rfl (Or.inl ⟨by rfl, fun W hW => by have z := KE1.out _ _ (Ku.out.below hW Ku.out.lt); go_simp⟩) (Till.low trivial BD.out) ?_
  (try simp only [Act.put, List.getElem_toArray, List.getElem_cons_succ, List.getElem_cons_zero, List.setIfInBounds_toArray, List.set_cons_zero, List.set_cons_succ])
  refine Ph.takeP (i := 11) (v := .bool true) rfl (fun W => by go_simp) (Till.low trivial BD.out) ?_
  (try simp only [Act.put, List.getElem_toArray, List.getElem_cons_succ, List.getElem_cons_zero, List.setIfInBounds_toArray, List.set_cons_zero, List.set_cons_succ])
  refine Ph.takeP (i := 12) (v := .bool true) rfl (fun W => by go_simp) (Till.low trivial BD.out) ?_
  (try simp only [Act.put, List.getElem_toArray, List.getElem_cons_succ, List.getElem_cons_zero, List.setIfInBounds_toArray, List.set_cons_zero, List.set_cons_succ])
  refine Ph.takeP (i := 13) (v := .bool true) rfl (fun W => by go_simp) (Till.low trivial BD.out) ?_
  (try simp only [Act.put, List.getElem_toArray, List.getElem_cons_succ, List.getElem_cons_zero, List.setIfInBounds_toArray, List.set_cons_zero, List.set_cons_succ])
  refine Ph.takeU (i := 14) (v := .agg (HC2)) rfl (Or.inl ⟨by rfl, fun W hW => exec_load_row 28 _ rfl (gj) rfl 28 (HC2) (0, 0) _ (Kj.out.below hW Kj.out.lt) Tryz.underlying28 rfl BN2.out.info⟩) (Till.low trivial BD.out) ?_
  (try simp only [Act.put, List.getElem_toArray, List.getElem_cons_succ, List.getElem_cons_zero, List.setIfInBounds_toArray, List.set_cons_zero, List.set_cons_succ])
  refine Ph.takeP (i := 15) (v := .pointer (some ⟨gv, 0, none⟩)) rfl (fun W => by go_simp) (Till.low trivial BD.out) ?_
  (try simp only [Act.put, List.getElem_toArray, List.getElem_cons_succ, List.getElem_cons_zero, List.setIfInBounds_toArray, List.set_cons_zero, List.set_cons_succ])
  refine Ph.takeU (i := 16) (v := .agg HC2) rfl (Or.inl ⟨by rfl, fun W hW => exec_load_midw 28 _ rfl (gv) 0 rfl HC2 _ (MI2.out _ _ (Kv.out.below hW Kv.out.lt)) Tryz.underlying28 rfl BN2.out.info⟩) (Till.low trivial BD.out) ?_
  (try simp only [Act.put, List.getElem_toArray, List.getElem_cons_succ, List.getElem_cons_zero, List.setIfInBounds_toArray, List.set_cons_zero, List.set_cons_succ])
  refine Ph.takeP (i := 17) (v := .bool true) rfl (fun W => by go_simp) (Till.low trivial BD.out) ?_
  (try simp only [Act.put, List.getElem_toArray, List.getElem_cons_succ, List.getElem_cons_zero, List.setIfInBounds_toArray, List.set_cons_zero, List.set_cons_succ])
  refine Ph.takeP (i := 18) (v := .bool true) rfl (fun W => by go_simp) (Till.low trivial BD.out) ?_
  (try simp only [Act.put, List.getElem_toArray, List.getElem_cons_succ, List.getElem_cons_zero, List.setIfInBounds_toArray, List.set_cons_zero, List.set_cons_succ])
  refine Ph.takeP (i := 19) (v := .bool true) rfl (fun W => by go_simp) (Till.low trivial BD.out) ?_
  (try simp only [Act.put, List.getElem_toArray, List.getElem_cons_succ, List.getElem_cons_zero, List.setIfInBounds_toArray, List.set_cons_zero, List.set_cons_succ])
  refine Ph.takeP (i := 20) (v := .int .i64 e2) rfl (fun W => by go_simp) (Till.low trivial BD.out) ?_
  (try simp only [Act.put, List.getElem_toArray, List.getElem_cons_succ, List.getElem_cons_zero, List.setIfInBounds_toArray, List.set_cons_zero, List.set_cons_succ])
  refine Ph.takeP (i := 21) (v := .pointer (some ⟨gv, 22, none⟩)) rfl (fun W => by go_simp) (Till.low trivial BD.out) ?_
  (try simp only [Act.put, List.getElem_toArray, List.getElem_cons_succ, List.getElem_cons_zero, List.setIfInBounds_toArray, List.set_cons_zero, List.set_cons_succ])
  refine Ph.takeU (i := 22) (v := .int .i64 e2) rfl (Or.inl ⟨by rfl, fun W hW => by have z := KE2.out _ _ (Kv.out.below hW Kv.out.lt); go_simp⟩) (Till.low trivial BD.out) ?_
  (try simp only [Act.put, List.getElem_toArray, List.getElem_cons_succ, List.getElem_cons_zero, List.setIfInBounds_toArray, List.set_cons_zero, List.set_cons_succ])
  refine Ph.takeP (i := 23) (v := .bool true) rfl (fun W => by go_simp) (Till.low trivial BD.out) ?_
  (try simp only [Act.put, List.getElem_toArray, List.getElem_cons_succ, List.getElem_cons_zero, List.setIfInBounds_toArray, List.set_cons_zero, List.set_cons_succ])
  refine Ph.takeP (i := 24) (v := .bool true) rfl (fun W => by go_simp) (Till.low trivial BD.out) ?_
  (try simp only [Act.put, List.getElem_toArray, List.getElem_cons_succ, List.getElem_cons_zero, List.setIfInBounds_toArray, List.set_cons_zero, List.set_cons_succ])
  refine Ph.takeP (i := 25) (v := .bool true) rfl (fun W => by go_simp) (Till.low trivial BD.out) ?_
  (try simp only [Act.put, List.getElem_toArray, List.getElem_cons_succ, List.getElem_cons_zero, List.setIfInBounds_toArray, List.set_cons_zero, List.set_cons_succ])
  refine Ph.takeU (i := 26) (v := .agg (heldC st he ls le lu lr D)) rfl (Or.inl ⟨by rfl, fun W hW => exec_load_row 28 _ rfl (G) rfl 28 (heldC st he ls le lu lr D) (0, 0) _ (Kh.out.below hW Kh.out.lt) Tryz.underlying28 rfl BGh.out.info⟩) (Till.low trivial BD.out) ?_
  (try simp only [Act.put, List.getElem_toArray, List.getElem_cons_succ, List.getElem_cons_zero, List.setIfInBounds_toArray, List.set_cons_zero, List.set_cons_succ])
  refine Ph.takeU (i := 27) (v := .agg #[.int .i64 lo, .int .i64 hi]) rfl (Or.inl ⟨by rfl, fun W hW => exec_load_row 30 _ rfl (G + 1 + 1) rfl 30 #[.int .i64 lo, .int .i64 hi] (0, 0) _ (Kp.out.below hW Kp.out.lt) Tryz.underlying30 rfl (big_per _ _).info⟩) (Till.low trivial BD.out) ?_
  (try simp only [Act.put, List.getElem_toArray, List.getElem_cons_succ, List.getElem_cons_zero, List.setIfInBounds_toArray, List.set_cons_zero, List.set_cons_succ])
  refine Ph.takeU (i := 29) (v := .agg (heldC st he ls le lu lr D)) rfl (Or.inl ⟨by rfl, fun W hW => exec_load_row 28 _ rfl (G) rfl 28 (heldC st he ls le lu lr D) (0, 0) _ (Kh.out.below hW Kh.out.lt) Tryz.underlying28 rfl BGh.out.info⟩) (Till.low trivial BD.out) ?_
  (try simp only [Act.put, List.getElem_toArray, List.getElem_cons_succ, List.getElem_cons_zero, List.setIfInBounds_toArray, List.set_cons_zero, List.set_cons_succ])
  refine Ph.takeU (i := 30) (v := .agg #[.int .i64 lo, .int .i64 hi]) rfl (Or.inl ⟨by rfl, fun W hW => exec_load_row 30 _ rfl (G + 1 + 1) rfl 30 #[.int .i64 lo, .int .i64 hi] (0, 0) _ (Kp.out.below hW Kp.out.lt) Tryz.underlying30 rfl (big_per _ _).info⟩) (Till.low trivial BD.out) ?_
  (try simp only [Act.put, List.getElem_toArray, List.getElem_cons_succ, List.getElem_cons_zero, List.setIfInBounds_toArray, List.set_cons_zero, List.set_cons_succ])
  refine Ph.ready (rs := [28]) (by kernel_rfl) (by simp) (All.cons rfl (fun K hK => ?_) (All.nil))
  go_simp
  refine (S1.out _).mono ?_
  rintro e v3 ⟨rfl, hb⟩
  replace BD := Lib.hid (bt BD.out hb)
  clear hb
  go_wp2_with fail
  refine hK _ _ (Till.low trivial BD.out) (fun _ => ?_)
  clear hK K
  (try simp only [Act.put, List.getElem_toArray, List.getElem_cons_succ, List.getElem_cons_zero, List.setIfInBounds_toArray, List.set_cons_zero, List.set_cons_succ])
  refine Ph.ready (rs := [31]) (by kernel_rfl) (by simp) (All.cons rfl (fun K hK => ?_) (All.nil))
  go_simp
  refine (S2.out _).mono ?_
  rintro e v4 ⟨rfl, hb⟩
  replace BD := Lib.hid (bt BD.out hb)
  clear hb
  go_wp2_with fail
  refine hK _ _ (Till.high (by rfl) BD.out) (fun _ => ?_)
  clear hK K
  refine Ph.takeP (i := 32) (v := .bool true) rfl (fun W => by go_simp) (Till.high (by rfl) BD.out) ?_
  (try simp only [Act.put, List.getElem_toArray, List.getElem_cons_succ, List.getElem_cons_zero, List.setIfInBounds_toArray, List.set_cons_zero, List.set_cons_succ])
  refine Ph.takeP (i := 33) (v := .bool true) rfl (fun W => by go_simp) (Till.high (by rfl) BD.out) ?_
  (try simp only [Act.put, List.getElem_toArray, List.getElem_cons_succ, List.getElem_cons_zero, List.setIfInBounds_toArray, List.set_cons_zero, List.set_cons_succ])
  refine Ph.takeP (i := 34) (v := .bool true) rfl (fun W => by go_simp) (Till.high (by rfl) BD.out) ?_
  (try simp only [Act.put, List.getElem_toArray, List.getElem_cons_succ, List.getElem_cons_zero, List.setIfInBounds_toArray, List.set_cons_zero, List.set_cons_succ])
  refine Ph.takeP (i := 35) (v := .int .i64 n5) rfl (fun W => by go_simp) (Till.high (by rfl) BD.out) ?_
  (try simp only [Act.put, List.getElem_toArray, List.getElem_cons_succ, List.getElem_cons_zero, List.setIfInBounds_toArray, List.set_cons_zero, List.set_cons_succ])
  refine Ph.takeP (i := 36) (v := .pointer (some ⟨gq, 0, none⟩)) rfl (fun W => by go_simp) (Till.high (by rfl) BD.out) ?_
  (try simp only [Act.put, List.getElem_toArray, List.getElem_cons_succ, List.getElem_cons_zero, List.setIfInBounds_toArray, List.set_cons_zero, List.set_cons_succ])
  refine Ph.takeU (i := 37) (v := .int .i64 n5) rfl (Or.inl ⟨by rfl, fun W hW => by obtain ⟨z0, z1⟩ := twob (Kq.out.below hW Kq.out.lt); go_simp⟩) (Till.high (by rfl) BD.out) ?_
  (try simp only [Act.put, List.getElem_toArray, List.getElem_cons_succ, List.getElem_cons_zero, List.setIfInBounds_toArray, List.set_cons_zero, List.set_cons_succ])
  refine Ph.takeP (i := 38) (v := .bool true) rfl (fun W => by go_simp) (Till.high (by rfl) BD.out) ?_
  (try simp only [Act.put, List.getElem_toArray, List.getElem_cons_succ, List.getElem_cons_zero, List.setIfInBounds_toArray, List.set_cons_zero, List.set_cons_succ])
  refine Ph.takeP (i := 39) (v := .bool true) rfl (fun W => by go_simp) (Till.high (by rfl) BD.out) ?_
  (try simp only [Act.put, List.getElem_toArray, List.getElem_cons_succ, List.getElem_cons_zero, List.setIfInBounds_toArray, List.set_cons_zero, List.set_cons_succ])
  refine Ph.takeP (i := 40) (v := .bool true) rfl (fun W => by go_simp) (Till.high (by rfl) BD.out) ?_
  (try simp only [Act.put, List.getElem_toArray, List.getElem_cons_succ, List.getElem_cons_zero, List.setIfInBounds_toArray, List.set_cons_zero, List.set_cons_succ])
  refine Ph.takeP (i := 41) (v := .int .i64 e5) rfl (fun W => by go_simp) (Till.high (by rfl) BD.out) ?_
  (try simp only [Act.put, List.getElem_toArray, List.getElem_cons_succ, List.getElem_cons_zero, List.setIfInBounds_toArray, List.set_cons_zero, List.set_cons_succ])
  refine Ph.takeP (i := 42) (v := .pointer (some ⟨gq, 1, none⟩)) rfl (fun W => by go_simp) (Till.high (by rfl) BD.out) ?_
  (try simp only [Act.put, List.getElem_toArray, List.getElem_cons_succ, List.getElem_cons_zero, List.setIfInBounds_toArray, List.set_cons_zero, List.set_cons_succ])
  refine Ph.takeU (i := 43) (v := .int .i64 e5) rfl (Or.inl ⟨by rfl, fun W hW => by obtain ⟨z0, z1⟩ := twob (Kq.out.below hW Kq.out.lt); go_simp⟩) (Till.high (by rfl) BD.out) ?_
  (try simp only [Act.put, List.getElem_toArray, List.getElem_cons_succ, List.getElem_cons_zero, List.setIfInBounds_toArray, List.set_cons_zero, List.set_cons_succ])
  refine Ph.takeP (i := 44) (v := .bool true) rfl (fun W => by go_simp) (Till.high (by rfl) BD.out) ?_
  (try simp only [Act.put, List.getElem_toArray, List.getElem_cons_succ, List.getElem_cons_zero, List.setIfInBounds_toArray, List.set_cons_zero, List.set_cons_succ])
  refine Ph.takeP (i := 45) (v := .bool true) rfl (fun W => by go_simp) (Till.high (by rfl) BD.out) ?_
  (try simp only [Act.put, List.getElem_toArray, List.getElem_cons_succ, List.getElem_cons_zero, List.setIfInBounds_toArray, List.set_cons_zero, List.set_cons_succ])
  refine Ph.takeP (i := 46) (v := .bool true) rfl (fun W => by go_simp) (Till.high (by rfl) BD.out) ?_
  (try simp only [Act.put, List.getElem_toArray, List.getElem_cons_succ, List.getElem_cons_zero, List.setIfInBounds_toArray, List.set_cons_zero, List.set_cons_succ])
  refine Ph.done (by kernel_rfl) ?_ _
  go_wp2
  go_ret
  exact ⟨rfl, bt B.out BD.out⟩
theorem law3 (a : Option Addr) (c : Nat) (rg : List Rw) (st he ls le lu lr xs xe un sr ep lo hi cl clo chi cd x : Int) (D V : List Nat) (w : World) (hp : RwA w a rg) (hm : rg.length ≤ 9223372036854775807) (hD : D.length = 16) (hV : V.length = 16) (o1 : i64Ok xs) (o2 : i64Ok xe) (o3 : i64Ok un) (o4 : i64Ok sr) (hla : Hs.LaidC w) (hlk : Hs.LaidK w) : Calls Tryz.prog 3 #[.slice a rg.length c, .agg (heldC st he ls le lu lr D), .agg (leaseC xs xe un sr V), .int .i64 ep, per lo hi, clk cl clo chi cd, .int .i64 x] w fun e w' => e = .returned (.bool true) ∧ Below w.heap.size w w' := by
  by_cases h0 : 20 < rg.length
  · exact hs_many a c rg st he ls le lu lr xs xe un sr ep lo hi cl clo chi cd x D V w hp hm hD hV o1 o2 o3 o4 hla hlk h0
  by_cases hr : RingOk rg
  · exact hs_ok a c rg st he ls le lu lr xs xe un sr ep lo hi cl clo chi cd x D V w hp hm hD hV o1 o2 o3 o4 hla hlk h0 hr
  · exact hs_noring a c rg st he ls le lu lr xs xe un sr ep lo hi cl clo chi cd x D V w hp hm hD hV o1 o2 o3 o4 hla hlk h0 hr
end Le
end Go.Proofs.YteblnmhaohbkkaaGreatDoor
