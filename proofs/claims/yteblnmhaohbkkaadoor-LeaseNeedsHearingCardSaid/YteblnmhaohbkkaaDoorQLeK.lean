/- Contracts: the law LeaseNeedsHearing. -/
import Derived.Test.YteblnmhaohbkkaaDoorQLeY
import Derived.Test.YteblnmhaohbkkaaDoorQSEQ
namespace Go.Proofs.YteblnmhaohbkkaaDoor
set_option linter.unusedVariables false
set_option linter.unusedSimpArgs false
namespace Le
open Go.RowKit Go.Sort
theorem lease_ne (s e u r : Int) (D : List Nat) (W : World) (hD : D.length = 16) : (binOp .neq 38 (.agg (leaseC s e u r D)) (.agg (leaseC s e u r D))).run Tryd.prog W = .ok (.bool false) W := by
  have h := lease_self s e u r D W hD
  obtain ⟨C, hC⟩ : ∃ C, leaseC s e u r D = C := ⟨_, rfl⟩
  rw [hC] at h ⊢
  go_simp
theorem held_mid {X : World} {g : Nat} {t : TypeId} {st he ls le lu lr : Int} {D : List Nat} (h : Blk X g t (heldC st he ls le lu lr D)) (hD : D.length = 16) : X.rangeAt g 2 (leaseC ls le lu lr D).toList := by
  have q := World.rangeAt_of_block h 2 20
  have e : ((heldC st he ls le lu lr D).extract 2 (2 + 20)).toList = (leaseC ls le lu lr D).toList := by
    unfold heldC heldL leaseL leaseC
    rw [Array.toList_extract]
    simp [List.extract, hD]
    exact List.take_of_length_le (by simp [hD])
  rwa [e] at q
theorem wpList_load_midw {P : Program} {a : Act} {w : World} {op : Oper} {Q : Exit → Act → World → Prop} {ops : Array Oper} {rest : List Oper} (hw : Region.wanted op (yielded ops a.tmps) = true) (ty : TypeId) (x : Operand) (ho : op.op = .load ty x) (b o : Nat) (hx : a.eval x = .pointer (some ⟨b, o, none⟩)) (C : Array Value) (d : TypeDesc)
    (hc : w.rangeAt b o C.toList) (hu : P.underlying ty = some d) (hd : d.isRow = true) (hi : (P.info? ty).map (·.size) = some C.size) (h : wpList P ops Q rest (a.put op.dst (.agg C)) w) : wpList P ops Q (op :: rest) a w :=
  BigFrame.wpList_want hw fun _ hK => wp_load_mid ty x ho b o hx C.toList d hc hu hd (by rw [Array.length_toList]; exact hi) (by rw [Array.toArray_toList]; exact hK _ _ h)
theorem grant_some (la mo : Int) (a : Option Addr) (c : Nat) (l : List Gr) (n lo hi len : Int) (w : World) (hp : GrA w a l) (hm : l.length ≤ 1000000) (ok : GsOk la mo l) (hs : 0 ≤ n ∧ n < 64) (hq : perB lo hi = true) (hl : 1 ≤ len ∧ len ≤ mo) (h3 : ¬ 1099511627775 < lo + len) (hla : Hs.LaidC w) :
    Calls Tryd.prog 11 #[.agg #[.int .i64 la, .int .i64 mo, .slice a l.length c], keyV, .int .i64 n, per lo hi, .int .i64 len] w fun e w' => (∃ V1 V2 E, e = .returned (.tuple #[.agg V1, .agg V2, .int .i64 E]) ∧ BigR 24 V1 ∧ BigR 38 V2 ∧ ((E = 0 ∧ (rowL n l).2.1 = la) ∨ (E = 4 ∧ (rowL n l).2.1 ≠ la))) ∧ Below w.heap.size w w' := by
  have RO := rowL_ok ok hs
  by_cases h : (rowL n l).2.1 < la
  · exact (grant_state la mo a c l 1 kS 0 1099511627776 n lo hi len w hp hm ok hs hq hl k0_ok h).mono fun e w' ⟨he, hb⟩ => ⟨⟨_, _, 4, he, big_grants _ _ _ _ _, big_leaseZ, .inr ⟨rfl, by omega⟩⟩, hb⟩
  · exact (grant_ok la mo a c l 1 kS 0 1099511627776 n lo hi len w hp hm ok hs hq hl k0_ok h (by omega) hla).mono fun e w' ⟨⟨a', c', he, _⟩, hb⟩ => ⟨⟨_, _, 0, he, big_grants _ _ _ _ _, big_lease (sealD_len _ _ _ _ _), .inl ⟨rfl, by have := RO.2.1.2; omega⟩⟩, hb⟩
set_option maxRecDepth 100000 in
set_option maxHeartbeats 4000000 in
theorem nh_ok (la mo : Int) (a : Option Addr) (c : Nat) (l : List Gr) (sn lo hi len : Int) (w : World) (hp : GrA w a l) (hm : l.length ≤ 9223372036854775807) (hsn : 0 ≤ sn ∧ sn < 256) (hla : Hs.LaidC w) (h0 : ¬ 64 < l.length) (ok : GsOk la mo l) (hq : perB lo hi = true) (hl : 1 ≤ len ∧ len ≤ mo) (h3 : ¬ 1099511627775 < lo + len) : Calls Tryd.prog 6 #[.agg #[.int .i64 la, .int .i64 mo, .slice a l.length c], .int .u8 sn, per lo hi, .int .i64 len] w fun e w' => e = .returned (.bool true) ∧ Below w.heap.size w w' := by
  have HLA := Lib.hid hla
  have HP := Lib.hid hp
  have SNT := Lib.hid (fun (X : World) (h : Hs.LaidC X) => sanity_any X h)
  have VA := Lib.hid (fun (X : World) (h : GrA X a l) => valid_any la mo a c l X h (by omega))
  have ev : validB la mo l = true := decide_eq_true ok
  rw [ev] at VA
  have PE := Lib.hid (fun (X : World) => period_any lo hi X)
  rw [hq] at PE
  have wl : IntKind.i64.wrap (lo + len) = lo + len := by have := of_decide_eq_true hq; have := ok.mo1; rw [IntKind.wrap_i64]; omega
  have hs : 0 ≤ sn % 64 ∧ sn % 64 < 64 := by omega
  have SM := Lib.hid (show IntKind.i64.wrap sn = sn ∧ sn.tmod 64 = sn % 64 from ⟨by rw [IntKind.wrap_i64]; omega, Int.tmod_eq_emod_of_nonneg hsn.1⟩)
  have HK := Lib.hid (show heardK (sn % 64) l l.length = (rowL (sn % 64) l).2.1 from heardK_is ok.ord _)
  have RO := rowL_ok ok hs
  have RS := rowL_site (sn % 64) l
  have GR1 := Lib.hid (fun (X : World) (h : GrA X a l) (k : Hs.LaidC X) => grant_some la mo a c l (sn % 64) lo hi len X h (by omega) ok hs hq hl h3 k)
  have CF := Lib.hid (fun (X : World) (h : GrA X a l) => confirm_ok la mo a c l (sn % 64) la X h (by omega) ok hs ⟨ok.la0.1, by omega⟩)
  have ec : confR (sn % 64) la l = (sn % 64, la, (rowL (sn % 64) l).2.2) := by unfold confR; rw [show max (rowL (sn % 64) l).2.1 la = la by have := RO.2.1.2; omega]
  have ok2 : GsOk la mo (withL (confR (sn % 64) la l) l) := with_ok ok (by rw [ec]; exact ⟨hs, ⟨ok.la0.1, by show la ≤ la; omega⟩, RO.2.2⟩)
  have hr2 : rowL (sn % 64) (withL (confR (sn % 64) la l) l) = (sn % 64, la, (rowL (sn % 64) l).2.2) := by have := with_row ok.ord (confR (sn % 64) la l); rw [ec] at this ⊢; exact this
  obtain ⟨L2, hL2⟩ : ∃ L, withL (confR (sn % 64) la l) l = L := ⟨_, rfl⟩
  simp only [hL2] at CF
  rw [hL2] at ok2 hr2
  have GR2 := Lib.hid (fun (a : Option Addr) (c : Nat) (X : World) (h : GrA X a L2) (k : Hs.LaidC X) => grant_ok la mo a c L2 1 kS 0 1099511627776 (sn % 64) lo hi len X h (by have := ok2.few; omega) ok2 hs hq hl k0_ok (by rw [hr2]; show ¬ la < la; omega) (by omega) k)
  have ok3 : GsOk la mo (withL (grantR (sn % 64) (lo + len) L2) L2) := with_ok ok2 (by unfold grantR; rw [hr2]; have := of_decide_eq_true hq; have := RO.2.2; exact ⟨hs, ⟨ok.la0.1, by show la ≤ la; omega⟩, by show 0 ≤ max (rowL (sn % 64) l).2.2 (lo + len); omega, by show max (rowL (sn % 64) l).2.2 (lo + len) ≤ 1099511627776; omega⟩)
  have lp3 : 0 < (withL (grantR (sn % 64) (lo + len) L2) L2).length := by
    have hr := with_row ok2.ord (grantR (sn % 64) (lo + len) L2)
    rcases Nat.eq_zero_or_pos (withL (grantR (sn % 64) (lo + len) L2) L2).length with q | q
    · rw [List.length_eq_zero_iff.1 q] at hr
      have := congrArg (fun x : Gr => x.2.2) hr
      simp only [grantR, rowL, hasG, posG] at this
      have := of_decide_eq_true hq
      simp at *
      omega
    · exact q
  obtain ⟨L3, hL3⟩ : ∃ L, withL (grantR (sn % 64) (lo + len) L2) L2 = L := ⟨_, rfl⟩
  simp only [hL3] at GR2
  rw [hL3] at ok3 lp3
  have LP := Lib.hid lp3
  have VA3 := Lib.hid (fun (a : Option Addr) (c : Nat) (X : World) (h : GrA X a L3) => valid_any la mo a c L3 X h (by have := ok3.few; omega))
  rw [show validB la mo L3 = true from decide_eq_true ok3] at VA3
  have hu : 1 ≤ lo + len ∧ lo + len ≤ 1099511627776 := by have := of_decide_eq_true hq; omega
  have D16 := sealD_len 1 kS (sn % 64) la (lo + len)
  have TK1 := Lib.hid (fun (a : Option Addr) (c : Nat) (X : World) (h : RwA X a [k0]) (k : Hs.LaidC X) => take_new a c [k0] (sn % 64) la 0 0 0 0 la (lo + len) 1 (List.replicate 16 0) (sealD 1 kS (sn % 64) la (lo + len)) X h ring0_ok rfl D16 ⟨hs, ok.la0, by omega⟩ (by have := ok.la0; unfold i64Ok; omega) k (chk_own _ _ _ hu) (by omega) (by omega))
  have TK2 := Lib.hid (fun (h0 : 0 < la) (a : Option Addr) (c : Nat) (X : World) (h : RwA X a [k0]) (k : Hs.LaidC X) => take_state a c [k0] (sn % 64) (la - 1) 0 0 0 0 la (lo + len) 1 (List.replicate 16 0) (sealD 1 kS (sn % 64) la (lo + len)) X h ring0_ok rfl D16 ⟨hs, by have := ok.la0; omega, by omega⟩ (by have := ok.la0; unfold i64Ok; omega) k (chk_own _ _ _ hu) (by omega))
  have BNm := Lib.hid (show BigR 38 (leaseC (sn % 64) la (lo + len) 1 (sealD 1 kS (sn % 64) la (lo + len))) from big_lease D16)
  have BNs := Lib.hid (show BigR 67 (heldC (sn % 64) la (sn % 64) la (lo + len) 1 (sealD 1 kS (sn % 64) la (lo + len))) from big_held D16)
  have LCm := Lib.hid (fun (X : World) (g : Nat) (h : Blk X g 38 (leaseC (sn % 64) la (lo + len) 1 (sealD 1 kS (sn % 64) la (lo + len)))) => lease_cells h)
  have MID := Lib.hid (fun (X : World) (g : Nat) (h : Blk X g 67 (heldC (sn % 64) la (sn % 64) la (lo + len) 1 (sealD 1 kS (sn % 64) la (lo + len)))) => held_mid h D16)
  have NE := Lib.hid (fun (W : World) => lease_ne (sn % 64) la (lo + len) 1 (sealD 1 kS (sn % 64) la (lo + len)) W D16)
  have BV2 := Lib.hid (show BigR 67 (heldC (sn % 64) (la - 1) 0 0 0 0 (List.replicate 16 0)) from big_held rfl)
  obtain ⟨LC, hLC⟩ : ∃ C, leaseC (sn % 64) la (lo + len) 1 (sealD 1 kS (sn % 64) la (lo + len)) = C := ⟨_, rfl⟩
  obtain ⟨HC, hHC⟩ : ∃ C, heldC (sn % 64) la (sn % 64) la (lo + len) 1 (sealD 1 kS (sn % 64) la (lo + len)) = C := ⟨_, rfl⟩
  obtain ⟨H1, hH1⟩ : ∃ C, heldC (sn % 64) la 0 0 0 0 (List.replicate 16 0) = C := ⟨_, rfl⟩
  obtain ⟨H2, hH2⟩ : ∃ C, heldC (sn % 64) (la - 1) 0 0 0 0 (List.replicate 16 0) = C := ⟨_, rfl⟩
  have EZ1 := Lib.hid hH1
  have EZ2 := Lib.hid hH2
  simp only [hLC] at GR2 TK1 TK2 BNm LCm MID NE
  simp only [hHC] at TK1 BNs MID
  simp only [hH1] at TK1
  simp only [hH2] at TK2 BV2
  clear hLC hHC hH1 hH2
  obtain ⟨m, hm64⟩ : ∃ m, sn % 64 = m := ⟨_, rfl⟩
  rw [hm64] at SM HK RS
  simp only [hm64] at GR1 CF GR2 TK1 TK2 EZ1 EZ2 LCm
  obtain ⟨u, hu2⟩ : ∃ u, lo + len = u := ⟨_, rfl⟩
  rw [hu2] at wl h3
  simp only [hu2] at GR2 LCm
  obtain ⟨x2, hx2⟩ : ∃ x, (rowL m l).2.1 = x := ⟨_, rfl⟩
  rw [hx2] at HK
  simp only [hx2] at GR1
  have H0 := Lib.hid (show 0 ≤ m ∧ m < 64 from by rw [← hm64]; exact hs)
  have HLa := Lib.hid ok.la0
  have HSN := Lib.hid hsn
  clear hx2 RS RO ec hr2 hL2 hL3 ok2 ok3 lp3 D16 hu hs
  obtain ⟨N, hN⟩ : ∃ N, l.length = N := ⟨_, rfl⟩
  have HE := Lib.hid hN
  simp only [hN] at VA GR1 CF HK
  rw [hN]
  rw [hN] at h0
  have t0 : decide ((64 : Int) < (N : Int)) = false := decide_eq_false (by omega)
  have NB := Lib.hid h0
  clear h0 hm
  have t1 : decide (len < 1) = false := decide_eq_false (by omega)
  have t2 : decide (mo < len) = false := decide_eq_false (by omega)
  have t3 : decide (1099511627775 < u) = false := decide_eq_false h3
  have HU := Lib.hid hu2
  have HM64 := Lib.hid hm64
  skip
  clear ev ok hq hl h3 hu2 hm64 hsn
  clear hN hla hp
  obtain ⟨G, hG⟩ : ∃ G, w.heap.size = G := ⟨_, rfl⟩
  have HG := Lib.hid hG
  have Kg := Lib.hid (show Blk ((w.alloc (.cells #[.int .i64 la, .int .i64 mo, .slice a N c] 24)).alloc (.cells #[.int .i64 lo, .int .i64 hi] 28)) (G) 24 #[.int .i64 la, .int .i64 mo, .slice a N c] from (Blk.new' _ _ _ _ hG rfl).alloc _)
  have Kp := Lib.hid (show Blk ((w.alloc (.cells #[.int .i64 la, .int .i64 mo, .slice a N c] 24)).alloc (.cells #[.int .i64 lo, .int .i64 hi] 28)) (G + 1) 28 #[.int .i64 lo, .int .i64 hi] from Blk.new' _ _ _ _ (by rw [World.size_alloc, hG]) rfl)
  have B := Lib.hid (show Below w.heap.size w ((w.alloc (.cells #[.int .i64 la, .int .i64 mo, .slice a N c] 24)).alloc (.cells #[.int .i64 lo, .int .i64 hi] 28)) by (repeat' (first | (with_reducible exact Below.refl _ _) | (with_reducible assumption) | (with_reducible refine Below.alloc ?_ ?_ _) | (with_reducible refine Below.drew ?_) | (with_reducible refine below_dn ?_) | (with_reducible refine Below.setCell ?_ ?_ _) | (with_reducible exact Nat.le_refl _) | omega | (simp only [World.size_alloc, World.size_setCell, World.size_drew]; omega) | (simp; omega) | (simp; done))))
  go_enter Tryd.func6, Tryd.ntmps6
  go_upto_region 1 with (fail)
  try rw [hG]
  generalize hw0 : ((w.alloc (.cells #[.int .i64 la, .int .i64 mo, .slice a N c] 24)).alloc (.cells #[.int .i64 lo, .int .i64 hi] 28)) = w0 at Kg Kp B ⊢
  clear hw0 hG
  have q9 : lo + len = u := HU.out
  obtain ⟨bgc0, bgc1, bgc2⟩ := three Kg.out
  obtain ⟨bpc0, bpc1⟩ := twob Kp.out
  go_wp2_with (fail)
  refine (VA.out _ (HP.out.mono B.out)).mono ?_
  rintro e w1 ⟨rfl, hb⟩
  replace Kg := Lib.hid (Kg.out.below hb Kg.out.lt)
  replace Kp := Lib.hid (Kp.out.below hb Kp.out.lt)
  replace B := Lib.hid (B.out.trans (hb.mono B.out.size))
  clear bgc0 bgc1 bgc2 bpc0 bpc1
  clear hb
  obtain ⟨bgc0, bgc1, bgc2⟩ := three Kg.out
  obtain ⟨bpc0, bpc1⟩ := twob Kp.out
  go_wp2_with (fail)
  refine (PE.out _).mono ?_
  rintro e w2 ⟨rfl, hb⟩
  replace Kg := Lib.hid (Kg.out.below hb Kg.out.lt)
  replace Kp := Lib.hid (Kp.out.below hb Kp.out.lt)
  replace B := Lib.hid (B.out.trans (hb.mono B.out.size))
  clear bgc0 bgc1 bgc2 bpc0 bpc1
  clear hb
  obtain ⟨bgc0, bgc1, bgc2⟩ := three Kg.out
  obtain ⟨bpc0, bpc1⟩ := twob Kp.out
  have wsn : IntKind.i64.wrap sn = sn := SM.out.1
  have msn : sn.tmod 64 = m := SM.out.2
  go_wp2
  go_loopw [10, 11] (fun u10 u11 wr => ∃ k : Nat, k ≤ N ∧ u11 = .int .i64 k ∧ u10 = .int .i64 (heardK m l k) ∧ Hid (Blk wr G 24 #[.int .i64 la, .int .i64 mo, .slice a N c]) ∧ Hid (Blk wr (G + 1) 28 #[.int .i64 lo, .int .i64 hi]) ∧ Hid (Below w.heap.size w wr)) (fun _ u11 _ => (N - intOf u11).toNat)
  case atStart => exact ⟨0, by omega, rfl, rfl, Kg, Kp, B⟩
  case round =>
    clear bgc0 bgc1 bgc2 bpc0 bpc1
    clear Kg Kp B
    obtain ⟨k, hk, rfl, rfl, Kg, Kp, B⟩ := hrel
    obtain ⟨bgc0, bgc1, bgc2⟩ := three Kg.out
    obtain ⟨bpc0, bpc1⟩ := twob Kp.out
    by_cases hlt : k < N
    · have t5 : decide ((k : Int) < (N : Int)) = true := decide_eq_true (by omega)
      have wk : IntKind.i64.wrap ((k : Int) + 1) = (k : Int) + 1 := by have := NB.out; rw [IntKind.wrap_i64]; omega
      obtain ⟨b1, f1, rfl, e0, e1, e2⟩ := at_ (HP.out.mono B.out) (k := k) (by rw [HE.out]; exact hlt)
      have DE : heardK m l (k + 1) = if (l.getD k g0).1 = m then (l.getD k g0).2.1 else heardK m l k := rfl
      obtain ⟨y, hy⟩ : ∃ y, l.getD k g0 = y := ⟨_, rfl⟩
      rw [hy] at e0 e1 e2 DE
      clear hy
      obtain ⟨y1, y2, y3⟩ := y
      simp only at e0 e1 e2 DE
      have k0 : (0 : Int) ≤ (k : Int) := by omega
      have kN : (k : Int) < (N : Int) := by omega
      have DH := Lib.hid DE
      clear DE
      obtain ⟨hk0, hhk⟩ : ∃ z, heardK m l k = z := ⟨_, rfl⟩
      rw [hhk] at DH ⊢
      clear hhk
      by_cases hy1 : y1 = m
      · have t6 : (y1 == m) = true := beq_iff_eq.2 hy1
        have D2 := Lib.hid (show heardK m l (k + 1) = y2 by rw [DH.out, if_pos hy1])
        clear hy1
        go_wp2
        go_roundw
        case rel => exact ⟨k + 1, by omega, by go_num, by rw [D2.out], Kg, Kp, B⟩
        case measure => simp [intOf]; omega
      · have t6 : (y1 == m) = false := beq_eq_false_iff_ne.2 hy1
        have D2 := Lib.hid (show heardK m l (k + 1) = hk0 by rw [DH.out, if_neg hy1])
        clear hy1
        go_wp2
        go_roundw
        case rel => exact ⟨k + 1, by omega, by go_num, by rw [D2.out], Kg, Kp, B⟩
        case measure => simp [intOf]; omega
    · obtain rfl : k = N := by omega
      have t5 : decide ((k : Int) < (k : Int)) = false := decide_eq_false (by omega)
      rw [HK.out]
      clear hlt hk
      skip
      clear bgc0 bgc1 bgc2 bpc0 bpc1
      obtain ⟨bgc0, bgc1, bgc2⟩ := three Kg.out
      obtain ⟨bpc0, bpc1⟩ := twob Kp.out
      clear bgc0 bgc1 bgc2 bpc0 bpc1
      obtain ⟨bgc0, bgc1, bgc2⟩ := three Kg.out
      obtain ⟨bpc0, bpc1⟩ := twob Kp.out
      clear bgc0 bgc1 bgc2 bpc0 bpc1
      obtain ⟨bgc0, bgc1, bgc2⟩ := three Kg.out
      obtain ⟨bpc0, bpc1⟩ := twob Kp.out
      go_upto_region 10 with (fail)
      clear bgc0 bgc1 bgc2 bpc0 bpc1
      go_cut [14] from 80 to 89 (fun u14 wx => ∃ E : Int, u14 = .int .i64 E ∧ Hid ((E = 0 ∧ x2 = la) ∨ (E = 4 ∧ x2 ≠ la)) ∧ Hid (Below wr.heap.size wr wx))
      case first =>
        refine Ph.start (S := Till 5 (fun _ => True) (fun W => Below wr.heap.size wr W)) (by kernel_rfl) (Till.low trivial (Below.refl _ _).drew) (fun _ => ?_)
        have BD := Lib.hid (Below.refl wr.heap.size wr).drew
        generalize wr.drew = va1 at BD ⊢
        refine Ph.takeU (i := 0) (v := .agg #[.int .i64 la, .int .i64 mo, .slice a k c]) rfl (Or.inl ⟨by rfl, fun W hW => exec_load_row 24 _ rfl (G) rfl 24 #[.int .i64 la, .int .i64 mo, .slice a k c] (0, 0) _ (Kg.out.below hW Kg.out.lt) Tryd.underlying24 rfl (big_grants _ _ _ _ _).info⟩) (Till.low trivial BD.out) ?_
        refine Ph.takeP (i := 2) (v := .int .i64 m) rfl (fun W => by go_simp) (Till.low trivial BD.out) ?_
        refine Ph.takeU (i := 3) (v := .agg #[.int .i64 lo, .int .i64 hi]) rfl (Or.inl ⟨by rfl, fun W hW => exec_load_row 28 _ rfl (G + 1) rfl 28 #[.int .i64 lo, .int .i64 hi] (0, 0) _ (Kp.out.below hW Kp.out.lt) Tryd.underlying28 rfl (big_per _ _).info⟩) (Till.low trivial BD.out) ?_
        refine Ph.takeP (i := 4) (v := .int .i64 len) rfl (fun W => by go_simp) (Till.low trivial BD.out) ?_
        (try simp only [Act.put, List.getElem_toArray, List.getElem_cons_succ, List.getElem_cons_zero, List.setIfInBounds_toArray, List.set_cons_zero, List.set_cons_succ])
        refine Ph.ready (rs := [1, 10, 11]) (by kernel_rfl) (by simp) (All.cons rfl (fun K hK => ?_) (All.cons rfl (fun K hK => ?_) (All.cons rfl (fun K hK => ?_) (All.nil))))
        · go_simp
          refine (sn_key _).mono ?_
          rintro e va2 ⟨rfl, hb⟩
          replace BD := Lib.hid (bt BD.out hb)
          clear hb
          go_wp2_with fail
          refine hK _ _ (Till.low trivial BD.out) (fun _ => ?_)
          clear hK K
          (try simp only [Act.put, List.getElem_toArray, List.getElem_cons_succ, List.getElem_cons_zero, List.setIfInBounds_toArray, List.set_cons_zero, List.set_cons_succ])
          refine Ph.ready (rs := [5, 10, 11]) (by kernel_rfl) (by simp) (All.cons rfl (fun K hK => ?_) (All.cons rfl (fun K hK => ?_) (All.cons rfl (fun K hK => ?_) (All.nil))))
          · go_simp
            refine (GR1.out _ (HP.out.mono (bt B.out BD.out)) (HLA.out.below (bt B.out BD.out))).mono ?_
            rintro e va3 ⟨⟨V1, V2, E, rfl, hv1, hv2, hE⟩, hb⟩
            replace BD := Lib.hid (bt BD.out hb)
            clear hb
            go_wp2_with fail
            refine hK _ _ (Till.high (by rfl) BD.out) (fun _ => ?_)
            clear hK K
            refine Ph.takeP (i := 6) (v := .tuple #[.agg V1, .agg V2, .int .i64 E]) rfl (fun W => by go_simp) (Till.high (by rfl) BD.out) ?_
            refine Ph.takeP (i := 7) (v := .agg V1) rfl (fun W => by go_simp) (Till.high (by rfl) BD.out) ?_
            refine Ph.takeP (i := 8) (v := .agg V2) rfl (fun W => by go_simp) (Till.high (by rfl) BD.out) ?_
            refine Ph.takeP (i := 9) (v := .int .i64 E) rfl (fun W => by go_simp) (Till.high (by rfl) BD.out) ?_
            (try simp only [Act.put, List.getElem_toArray, List.getElem_cons_succ, List.getElem_cons_zero, List.setIfInBounds_toArray, List.set_cons_zero, List.set_cons_succ])
            refine Ph.ready (rs := [10, 11]) (by kernel_rfl) (by simp) (All.cons rfl (fun K hK => ?_) (All.cons rfl (fun K hK => ?_) (All.nil)))
            · go_simp
              obtain ⟨gx, hgx⟩ : ∃ G, va3.heap.size = G := ⟨_, rfl⟩
              have Kx := Lib.hid (Blk.new' va3 24 #[.int .i64 0, .int .i64 0, .slice none 0 0] _ hgx rfl)
              have Lx := Lib.hid (show wr.heap.size ≤ gx from by rw [← hgx]; exact BD.out.size)
              replace BD := Lib.hid (BD.out.alloc BD.out.size (.cells #[.int .i64 0, .int .i64 0, .slice none 0 0] 24))
              try rw [hgx]
              generalize hw2 : va3.alloc (.cells #[.int .i64 0, .int .i64 0, .slice none 0 0] 24) = va4 at Kx BD ⊢
              clear hw2 hgx
              refine hK _ _ (Till.high (by rfl) BD.out) (fun _ => ?_)
              clear hK K
              (try simp only [Act.put, List.getElem_toArray, List.getElem_cons_succ, List.getElem_cons_zero, List.setIfInBounds_toArray, List.set_cons_zero, List.set_cons_succ])
              refine Ph.ready (rs := [11]) (by kernel_rfl) (by simp) (All.cons rfl (fun K hK => ?_) (All.nil))
              go_simp
              obtain ⟨gy, hgy⟩ : ∃ G, va4.heap.size = G := ⟨_, rfl⟩
              have Ky := Lib.hid (Blk.new' va4 38 leaseZ _ hgy rfl)
              have Ly := Lib.hid (show wr.heap.size ≤ gy from by rw [← hgy]; exact BD.out.size)
              have Nxy := Lib.hid (show gx < gy from by rw [← hgy]; exact Kx.out.lt)
              replace Kx := Lib.hid (Kx.out.alloc (.cells leaseZ 38))
              replace BD := Lib.hid (BD.out.alloc BD.out.size (.cells leaseZ 38))
              try rw [hgy]
              generalize hw2 : va4.alloc (.cells leaseZ 38) = va5 at Kx Ky BD ⊢
              clear hw2 hgy
              refine hK _ _ (Till.high (by rfl) BD.out) (fun _ => ?_)
              clear hK K
              (try simp only [Act.put, List.getElem_toArray, List.getElem_cons_succ, List.getElem_cons_zero, List.setIfInBounds_toArray, List.set_cons_zero, List.set_cons_succ])
              refine Ph.ready (rs := [12]) (by kernel_rfl) (by simp) (All.cons rfl (fun K hK => ?_) (All.nil))
              rw [if_pos (by rfl)]
              refine wp_store_row 24 _ _ rfl (gx) 24 #[.int .i64 0, .int .i64 0, .slice none 0 0] V1 rfl rfl (Blk.hs Kx.out) hv1.info ((big_grants _ _ _ _ _).same hv1) hv1.one rfl ?_
              replace Kx := Lib.hid (Kx.out.row_ V1)
              replace Ky := Lib.hid (Ky.out.rowfar (show gy ≠ gx by have := Nxy.out; omega) V1)
              replace BD := Lib.hid (below_setRow BD.out Lx.out V1)
              generalize hw2 : (va5.setRow (gx) V1) = va6 at Kx Ky BD ⊢
              clear hw2
              refine hK _ _ (Till.high (by rfl) BD.out) (fun _ => ?_)
              clear hK K
              (try simp only [Act.put, List.getElem_toArray, List.getElem_cons_succ, List.getElem_cons_zero, List.setIfInBounds_toArray, List.set_cons_zero, List.set_cons_succ])
              refine Ph.ready (rs := [13]) (by kernel_rfl) (by simp) (All.cons rfl (fun K hK => ?_) (All.nil))
              rw [if_pos (by rfl)]
              refine wp_store_row 38 _ _ rfl (gy) 38 leaseZ V2 rfl rfl (Blk.hs Ky.out) hv2.info (big_leaseZ.same hv2) hv2.one rfl ?_
              replace Ky := Lib.hid (Ky.out.row_ V2)
              replace Kx := Lib.hid (Kx.out.rowfar (show gx ≠ gy by have := Nxy.out; omega) V2)
              replace BD := Lib.hid (below_setRow BD.out Ly.out V2)
              generalize hw2 : (va6.setRow (gy) V2) = va7 at Kx Ky BD ⊢
              clear hw2
              refine hK _ _ (Till.high (by rfl) BD.out) (fun _ => ?_)
              clear hK K
              refine Ph.takeP (i := 14) (v := .int .i64 E) rfl (fun W => by go_simp) (Till.high (by rfl) BD.out) ?_
              (try simp only [Act.put, List.getElem_toArray, List.getElem_cons_succ, List.getElem_cons_zero, List.setIfInBounds_toArray, List.set_cons_zero, List.set_cons_succ])
              refine Ph.done (by kernel_rfl) ?_ _
              go_wp2_with fail
              go_meet
              exact ⟨E, rfl, Lib.hid hE, BD⟩
            · go_simp
              obtain ⟨gy, hgy⟩ : ∃ G, va3.heap.size = G := ⟨_, rfl⟩
              have Ky := Lib.hid (Blk.new' va3 38 leaseZ _ hgy rfl)
              have Ly := Lib.hid (show wr.heap.size ≤ gy from by rw [← hgy]; exact BD.out.size)
              replace BD := Lib.hid (BD.out.alloc BD.out.size (.cells leaseZ 38))
              try rw [hgy]
              generalize hw2 : va3.alloc (.cells leaseZ 38) = va8 at Ky BD ⊢
              clear hw2 hgy
              refine hK _ _ (Till.high (by rfl) BD.out) (fun _ => ?_)
              clear hK K
              (try simp only [Act.put, List.getElem_toArray, List.getElem_cons_succ, List.getElem_cons_zero, List.setIfInBounds_toArray, List.set_cons_zero, List.set_cons_succ])
              refine Ph.ready (rs := [10]) (by kernel_rfl) (by simp) (All.cons rfl (fun K hK => ?_) (All.nil))
              go_simp
              obtain ⟨gx, hgx⟩ : ∃ G, va8.heap.size = G := ⟨_, rfl⟩
              have Kx := Lib.hid (Blk.new' va8 24 #[.int .i64 0, .int .i64 0, .slice none 0 0] _ hgx rfl)
              have Lx := Lib.hid (show wr.heap.size ≤ gx from by rw [← hgx]; exact BD.out.size)
              have Nyx := Lib.hid (show gy < gx from by rw [← hgx]; exact Ky.out.lt)
              replace Ky := Lib.hid (Ky.out.alloc (.cells #[.int .i64 0, .int .i64 0, .slice none 0 0] 24))
              replace BD := Lib.hid (BD.out.alloc BD.out.size (.cells #[.int .i64 0, .int .i64 0, .slice none 0 0] 24))
              try rw [hgx]
              generalize hw2 : va8.alloc (.cells #[.int .i64 0, .int .i64 0, .slice none 0 0] 24) = va9 at Ky Kx BD ⊢
              clear hw2 hgx
              refine hK _ _ (Till.high (by rfl) BD.out) (fun _ => ?_)
              clear hK K
              (try simp only [Act.put, List.getElem_toArray, List.getElem_cons_succ, List.getElem_cons_zero, List.setIfInBounds_toArray, List.set_cons_zero, List.set_cons_succ])
              refine Ph.ready (rs := [12]) (by kernel_rfl) (by simp) (All.cons rfl (fun K hK => ?_) (All.nil))
              rw [if_pos (by rfl)]
              refine wp_store_row 24 _ _ rfl (gx) 24 #[.int .i64 0, .int .i64 0, .slice none 0 0] V1 rfl rfl (Blk.hs Kx.out) hv1.info ((big_grants _ _ _ _ _).same hv1) hv1.one rfl ?_
              replace Kx := Lib.hid (Kx.out.row_ V1)
              replace Ky := Lib.hid (Ky.out.rowfar (show gy ≠ gx by have := Nyx.out; omega) V1)
              replace BD := Lib.hid (below_setRow BD.out Lx.out V1)
              generalize hw2 : (va9.setRow (gx) V1) = va10 at Ky Kx BD ⊢
              clear hw2
              refine hK _ _ (Till.high (by rfl) BD.out) (fun _ => ?_)
              clear hK K
              (try simp only [Act.put, List.getElem_toArray, List.getElem_cons_succ, List.getElem_cons_zero, List.setIfInBounds_toArray, List.set_cons_zero, List.set_cons_succ])
              refine Ph.ready (rs := [13]) (by kernel_rfl) (by simp) (All.cons rfl (fun K hK => ?_) (All.nil))
              rw [if_pos (by rfl)]
              refine wp_store_row 38 _ _ rfl (gy) 38 leaseZ V2 rfl rfl (Blk.hs Ky.out) hv2.info (big_leaseZ.same hv2) hv2.one rfl ?_
              replace Ky := Lib.hid (Ky.out.row_ V2)
              replace Kx := Lib.hid (Kx.out.rowfar (show gx ≠ gy by have := Nyx.out; omega) V2)
              replace BD := Lib.hid (below_setRow BD.out Ly.out V2)
              generalize hw2 : (va10.setRow (gy) V2) = va11 at Ky Kx BD ⊢
              clear hw2
              refine hK _ _ (Till.high (by rfl) BD.out) (fun _ => ?_)
              clear hK K
              refine Ph.takeP (i := 14) (v := .int .i64 E) rfl (fun W => by go_simp) (Till.high (by rfl) BD.out) ?_
              (try simp only [Act.put, List.getElem_toArray, List.getElem_cons_succ, List.getElem_cons_zero, List.setIfInBounds_toArray, List.set_cons_zero, List.set_cons_succ])
              refine Ph.done (by kernel_rfl) ?_ _
              go_wp2_with fail
              go_meet
              exact ⟨E, rfl, Lib.hid hE, BD⟩
          · go_simp
            obtain ⟨gx, hgx⟩ : ∃ G, va2.heap.size = G := ⟨_, rfl⟩
            have Kx := Lib.hid (Blk.new' va2 24 #[.int .i64 0, .int .i64 0, .slice none 0 0] _ hgx rfl)
            have Lx := Lib.hid (show wr.heap.size ≤ gx from by rw [← hgx]; exact BD.out.size)
            replace BD := Lib.hid (BD.out.alloc BD.out.size (.cells #[.int .i64 0, .int .i64 0, .slice none 0 0] 24))
            try rw [hgx]
            generalize hw2 : va2.alloc (.cells #[.int .i64 0, .int .i64 0, .slice none 0 0] 24) = va12 at Kx BD ⊢
            clear hw2 hgx
            refine hK _ _ (Till.low trivial BD.out) (fun _ => ?_)
            clear hK K
            (try simp only [Act.put, List.getElem_toArray, List.getElem_cons_succ, List.getElem_cons_zero, List.setIfInBounds_toArray, List.set_cons_zero, List.set_cons_succ])
            refine Ph.ready (rs := [5, 11]) (by kernel_rfl) (by simp) (All.cons rfl (fun K hK => ?_) (All.cons rfl (fun K hK => ?_) (All.nil)))
            · go_simp
              refine (GR1.out _ (HP.out.mono (bt B.out BD.out)) (HLA.out.below (bt B.out BD.out))).mono ?_
              rintro e va13 ⟨⟨V1, V2, E, rfl, hv1, hv2, hE⟩, hb⟩
              replace Kx := Lib.hid (Kx.out.below hb Kx.out.lt)
              replace BD := Lib.hid (bt BD.out hb)
              clear hb
              go_wp2_with fail
              refine hK _ _ (Till.high (by rfl) BD.out) (fun _ => ?_)
              clear hK K
              refine Ph.takeP (i := 6) (v := .tuple #[.agg V1, .agg V2, .int .i64 E]) rfl (fun W => by go_simp) (Till.high (by rfl) BD.out) ?_
              refine Ph.takeP (i := 7) (v := .agg V1) rfl (fun W => by go_simp) (Till.high (by rfl) BD.out) ?_
              refine Ph.takeP (i := 8) (v := .agg V2) rfl (fun W => by go_simp) (Till.high (by rfl) BD.out) ?_
              refine Ph.takeP (i := 9) (v := .int .i64 E) rfl (fun W => by go_simp) (Till.high (by rfl) BD.out) ?_
              (try simp only [Act.put, List.getElem_toArray, List.getElem_cons_succ, List.getElem_cons_zero, List.setIfInBounds_toArray, List.set_cons_zero, List.set_cons_succ])
              refine Ph.ready (rs := [11]) (by kernel_rfl) (by simp) (All.cons rfl (fun K hK => ?_) (All.nil))
              go_simp
              obtain ⟨gy, hgy⟩ : ∃ G, va13.heap.size = G := ⟨_, rfl⟩
              have Ky := Lib.hid (Blk.new' va13 38 leaseZ _ hgy rfl)
              have Ly := Lib.hid (show wr.heap.size ≤ gy from by rw [← hgy]; exact BD.out.size)
              have Nxy := Lib.hid (show gx < gy from by rw [← hgy]; exact Kx.out.lt)
              replace Kx := Lib.hid (Kx.out.alloc (.cells leaseZ 38))
              replace BD := Lib.hid (BD.out.alloc BD.out.size (.cells leaseZ 38))
              try rw [hgy]
              generalize hw2 : va13.alloc (.cells leaseZ 38) = va14 at Kx Ky BD ⊢
              clear hw2 hgy
              refine hK _ _ (Till.high (by rfl) BD.out) (fun _ => ?_)
              clear hK K
              (try simp only [Act.put, List.getElem_toArray, List.getElem_cons_succ, List.getElem_cons_zero, List.setIfInBounds_toArray, List.set_cons_zero, List.set_cons_succ])
              refine Ph.ready (rs := [12]) (by kernel_rfl) (by simp) (All.cons rfl (fun K hK => ?_) (All.nil))
              rw [if_pos (by rfl)]
              refine wp_store_row 24 _ _ rfl (gx) 24 #[.int .i64 0, .int .i64 0, .slice none 0 0] V1 rfl rfl (Blk.hs Kx.out) hv1.info ((big_grants _ _ _ _ _).same hv1) hv1.one rfl ?_
              replace Kx := Lib.hid (Kx.out.row_ V1)
              replace Ky := Lib.hid (Ky.out.rowfar (show gy ≠ gx by have := Nxy.out; omega) V1)
              replace BD := Lib.hid (below_setRow BD.out Lx.out V1)
              generalize hw2 : (va14.setRow (gx) V1) = va15 at Kx Ky BD ⊢
              clear hw2
              refine hK _ _ (Till.high (by rfl) BD.out) (fun _ => ?_)
              clear hK K
              (try simp only [Act.put, List.getElem_toArray, List.getElem_cons_succ, List.getElem_cons_zero, List.setIfInBounds_toArray, List.set_cons_zero, List.set_cons_succ])
              refine Ph.ready (rs := [13]) (by kernel_rfl) (by simp) (All.cons rfl (fun K hK => ?_) (All.nil))
              rw [if_pos (by rfl)]
              refine wp_store_row 38 _ _ rfl (gy) 38 leaseZ V2 rfl rfl (Blk.hs Ky.out) hv2.info (big_leaseZ.same hv2) hv2.one rfl ?_
              replace Ky := Lib.hid (Ky.out.row_ V2)
              replace Kx := Lib.hid (Kx.out.rowfar (show gx ≠ gy by have := Nxy.out; omega) V2)
              replace BD := Lib.hid (below_setRow BD.out Ly.out V2)
              generalize hw2 : (va15.setRow (gy) V2) = va16 at Kx Ky BD ⊢
              clear hw2
              refine hK _ _ (Till.high (by rfl) BD.out) (fun _ => ?_)
              clear hK K
              refine Ph.takeP (i := 14) (v := .int .i64 E) rfl (fun W => by go_simp) (Till.high (by rfl) BD.out) ?_
              (try simp only [Act.put, List.getElem_toArray, List.getElem_cons_succ, List.getElem_cons_zero, List.setIfInBounds_toArray, List.set_cons_zero, List.set_cons_succ])
              refine Ph.done (by kernel_rfl) ?_ _
              go_wp2_with fail
              go_meet
              exact ⟨E, rfl, Lib.hid hE, BD⟩
            · go_simp
              obtain ⟨gy, hgy⟩ : ∃ G, va12.heap.size = G := ⟨_, rfl⟩
              have Ky := Lib.hid (Blk.new' va12 38 leaseZ _ hgy rfl)
              have Ly := Lib.hid (show wr.heap.size ≤ gy from by rw [← hgy]; exact BD.out.size)
              have Nxy := Lib.hid (show gx < gy from by rw [← hgy]; exact Kx.out.lt)
              replace Kx := Lib.hid (Kx.out.alloc (.cells leaseZ 38))
              replace BD := Lib.hid (BD.out.alloc BD.out.size (.cells leaseZ 38))
              try rw [hgy]
              generalize hw2 : va12.alloc (.cells leaseZ 38) = va17 at Kx Ky BD ⊢
              clear hw2 hgy
              refine hK _ _ (Till.low trivial BD.out) (fun _ => ?_)
              clear hK K
              (try simp only [Act.put, List.getElem_toArray, List.getElem_cons_succ, List.getElem_cons_zero, List.setIfInBounds_toArray, List.set_cons_zero, List.set_cons_succ])
              refine Ph.ready (rs := [5]) (by kernel_rfl) (by simp) (All.cons rfl (fun K hK => ?_) (All.nil))
              go_simp
              refine (GR1.out _ (HP.out.mono (bt B.out BD.out)) (HLA.out.below (bt B.out BD.out))).mono ?_
              rintro e va18 ⟨⟨V1, V2, E, rfl, hv1, hv2, hE⟩, hb⟩
              replace Kx := Lib.hid (Kx.out.below hb Kx.out.lt)
              replace Ky := Lib.hid (Ky.out.below hb Ky.out.lt)
              replace BD := Lib.hid (bt BD.out hb)
              clear hb
              go_wp2_with fail
              refine hK _ _ (Till.high (by rfl) BD.out) (fun _ => ?_)
              clear hK K
              refine Ph.takeP (i := 6) (v := .tuple #[.agg V1, .agg V2, .int .i64 E]) rfl (fun W => by go_simp) (Till.high (by rfl) BD.out) ?_
              refine Ph.takeP (i := 7) (v := .agg V1) rfl (fun W => by go_simp) (Till.high (by rfl) BD.out) ?_
              refine Ph.takeP (i := 8) (v := .agg V2) rfl (fun W => by go_simp) (Till.high (by rfl) BD.out) ?_
              refine Ph.takeP (i := 9) (v := .int .i64 E) rfl (fun W => by go_simp) (Till.high (by rfl) BD.out) ?_
              (try simp only [Act.put, List.getElem_toArray, List.getElem_cons_succ, List.getElem_cons_zero, List.setIfInBounds_toArray, List.set_cons_zero, List.set_cons_succ])
              refine Ph.ready (rs := [12]) (by kernel_rfl) (by simp) (All.cons rfl (fun K hK => ?_) (All.nil))
              rw [if_pos (by rfl)]
              refine wp_store_row 24 _ _ rfl (gx) 24 #[.int .i64 0, .int .i64 0, .slice none 0 0] V1 rfl rfl (Blk.hs Kx.out) hv1.info ((big_grants _ _ _ _ _).same hv1) hv1.one rfl ?_
              replace Kx := Lib.hid (Kx.out.row_ V1)
              replace Ky := Lib.hid (Ky.out.rowfar (show gy ≠ gx by have := Nxy.out; omega) V1)
              replace BD := Lib.hid (below_setRow BD.out Lx.out V1)
              generalize hw2 : (va18.setRow (gx) V1) = va19 at Kx Ky BD ⊢
              clear hw2
              refine hK _ _ (Till.high (by rfl) BD.out) (fun _ => ?_)
              clear hK K
              (try simp only [Act.put, List.getElem_toArray, List.getElem_cons_succ, List.getElem_cons_zero, List.setIfInBounds_toArray, List.set_cons_zero, List.set_cons_succ])
              refine Ph.ready (rs := [13]) (by kernel_rfl) (by simp) (All.cons rfl (fun K hK => ?_) (All.nil))
              rw [if_pos (by rfl)]
              refine wp_store_row 38 _ _ rfl (gy) 38 leaseZ V2 rfl rfl (Blk.hs Ky.out) hv2.info (big_leaseZ.same hv2) hv2.one rfl ?_
              replace Ky := Lib.hid (Ky.out.row_ V2)
              replace Kx := Lib.hid (Kx.out.rowfar (show gx ≠ gy by have := Nxy.out; omega) V2)
              replace BD := Lib.hid (below_setRow BD.out Ly.out V2)
              generalize hw2 : (va19.setRow (gy) V2) = va20 at Kx Ky BD ⊢
              clear hw2
              refine hK _ _ (Till.high (by rfl) BD.out) (fun _ => ?_)
              clear hK K
              refine Ph.takeP (i := 14) (v := .int .i64 E) rfl (fun W => by go_simp) (Till.high (by rfl) BD.out) ?_
              (try simp only [Act.put, List.getElem_toArray, List.getElem_cons_succ, List.getElem_cons_zero, List.setIfInBounds_toArray, List.set_cons_zero, List.set_cons_succ])
              refine Ph.done (by kernel_rfl) ?_ _
              go_wp2_with fail
              go_meet
              exact ⟨E, rfl, Lib.hid hE, BD⟩
          · go_simp
            obtain ⟨gy, hgy⟩ : ∃ G, va2.heap.size = G := ⟨_, rfl⟩
            have Ky := Lib.hid (Blk.new' va2 38 leaseZ _ hgy rfl)
            have Ly := Lib.hid (show wr.heap.size ≤ gy from by rw [← hgy]; exact BD.out.size)
            replace BD := Lib.hid (BD.out.alloc BD.out.size (.cells leaseZ 38))
            try rw [hgy]
            generalize hw2 : va2.alloc (.cells leaseZ 38) = va21 at Ky BD ⊢
            clear hw2 hgy
            refine hK _ _ (Till.low trivial BD.out) (fun _ => ?_)
            clear hK K
            (try simp only [Act.put, List.getElem_toArray, List.getElem_cons_succ, List.getElem_cons_zero, List.setIfInBounds_toArray, List.set_cons_zero, List.set_cons_succ])
            refine Ph.ready (rs := [5, 10]) (by kernel_rfl) (by simp) (All.cons rfl (fun K hK => ?_) (All.cons rfl (fun K hK => ?_) (All.nil)))
            · go_simp
              refine (GR1.out _ (HP.out.mono (bt B.out BD.out)) (HLA.out.below (bt B.out BD.out))).mono ?_
              rintro e va22 ⟨⟨V1, V2, E, rfl, hv1, hv2, hE⟩, hb⟩
              replace Ky := Lib.hid (Ky.out.below hb Ky.out.lt)
              replace BD := Lib.hid (bt BD.out hb)
              clear hb
              go_wp2_with fail
              refine hK _ _ (Till.high (by rfl) BD.out) (fun _ => ?_)
              clear hK K
              refine Ph.takeP (i := 6) (v := .tuple #[.agg V1, .agg V2, .int .i64 E]) rfl (fun W => by go_simp) (Till.high (by rfl) BD.out) ?_
              refine Ph.takeP (i := 7) (v := .agg V1) rfl (fun W => by go_simp) (Till.high (by rfl) BD.out) ?_
              refine Ph.takeP (i := 8) (v := .agg V2) rfl (fun W => by go_simp) (Till.high (by rfl) BD.out) ?_
              refine Ph.takeP (i := 9) (v := .int .i64 E) rfl (fun W => by go_simp) (Till.high (by rfl) BD.out) ?_
              (try simp only [Act.put, List.getElem_toArray, List.getElem_cons_succ, List.getElem_cons_zero, List.setIfInBounds_toArray, List.set_cons_zero, List.set_cons_succ])
              refine Ph.ready (rs := [10]) (by kernel_rfl) (by simp) (All.cons rfl (fun K hK => ?_) (All.nil))
              go_simp
              obtain ⟨gx, hgx⟩ : ∃ G, va22.heap.size = G := ⟨_, rfl⟩
              have Kx := Lib.hid (Blk.new' va22 24 #[.int .i64 0, .int .i64 0, .slice none 0 0] _ hgx rfl)
              have Lx := Lib.hid (show wr.heap.size ≤ gx from by rw [← hgx]; exact BD.out.size)
              have Nyx := Lib.hid (show gy < gx from by rw [← hgx]; exact Ky.out.lt)
              replace Ky := Lib.hid (Ky.out.alloc (.cells #[.int .i64 0, .int .i64 0, .slice none 0 0] 24))
              replace BD := Lib.hid (BD.out.alloc BD.out.size (.cells #[.int .i64 0, .int .i64 0, .slice none 0 0] 24))
              try rw [hgx]
              generalize hw2 : va22.alloc (.cells #[.int .i64 0, .int .i64 0, .slice none 0 0] 24) = va23 at Ky Kx BD ⊢
              clear hw2 hgx
              refine hK _ _ (Till.high (by rfl) BD.out) (fun _ => ?_)
              clear hK K
              (try simp only [Act.put, List.getElem_toArray, List.getElem_cons_succ, List.getElem_cons_zero, List.setIfInBounds_toArray, List.set_cons_zero, List.set_cons_succ])
              refine Ph.ready (rs := [12]) (by kernel_rfl) (by simp) (All.cons rfl (fun K hK => ?_) (All.nil))
              rw [if_pos (by rfl)]
              refine wp_store_row 24 _ _ rfl (gx) 24 #[.int .i64 0, .int .i64 0, .slice none 0 0] V1 rfl rfl (Blk.hs Kx.out) hv1.info ((big_grants _ _ _ _ _).same hv1) hv1.one rfl ?_
              replace Kx := Lib.hid (Kx.out.row_ V1)
              replace Ky := Lib.hid (Ky.out.rowfar (show gy ≠ gx by have := Nyx.out; omega) V1)
              replace BD := Lib.hid (below_setRow BD.out Lx.out V1)
              generalize hw2 : (va23.setRow (gx) V1) = va24 at Ky Kx BD ⊢
              clear hw2
              refine hK _ _ (Till.high (by rfl) BD.out) (fun _ => ?_)
              clear hK K
              (try simp only [Act.put, List.getElem_toArray, List.getElem_cons_succ, List.getElem_cons_zero, List.setIfInBounds_toArray, List.set_cons_zero, List.set_cons_succ])
              refine Ph.ready (rs := [13]) (by kernel_rfl) (by simp) (All.cons rfl (fun K hK => ?_) (All.nil))
              rw [if_pos (by rfl)]
              refine wp_store_row 38 _ _ rfl (gy) 38 leaseZ V2 rfl rfl (Blk.hs Ky.out) hv2.info (big_leaseZ.same hv2) hv2.one rfl ?_
              replace Ky := Lib.hid (Ky.out.row_ V2)
              replace Kx := Lib.hid (Kx.out.rowfar (show gx ≠ gy by have := Nyx.out; omega) V2)
              replace BD := Lib.hid (below_setRow BD.out Ly.out V2)
              generalize hw2 : (va24.setRow (gy) V2) = va25 at Ky Kx BD ⊢
              clear hw2
              refine hK _ _ (Till.high (by rfl) BD.out) (fun _ => ?_)
              clear hK K
              refine Ph.takeP (i := 14) (v := .int .i64 E) rfl (fun W => by go_simp) (Till.high (by rfl) BD.out) ?_
              (try simp only [Act.put, List.getElem_toArray, List.getElem_cons_succ, List.getElem_cons_zero, List.setIfInBounds_toArray, List.set_cons_zero, List.set_cons_succ])
              refine Ph.done (by kernel_rfl) ?_ _
              go_wp2_with fail
              go_meet
              exact ⟨E, rfl, Lib.hid hE, BD⟩
            · go_simp
              obtain ⟨gx, hgx⟩ : ∃ G, va21.heap.size = G := ⟨_, rfl⟩
              have Kx := Lib.hid (Blk.new' va21 24 #[.int .i64 0, .int .i64 0, .slice none 0 0] _ hgx rfl)
              have Lx := Lib.hid (show wr.heap.size ≤ gx from by rw [← hgx]; exact BD.out.size)
              have Nyx := Lib.hid (show gy < gx from by rw [← hgx]; exact Ky.out.lt)
              replace Ky := Lib.hid (Ky.out.alloc (.cells #[.int .i64 0, .int .i64 0, .slice none 0 0] 24))
              replace BD := Lib.hid (BD.out.alloc BD.out.size (.cells #[.int .i64 0, .int .i64 0, .slice none 0 0] 24))
              try rw [hgx]
              generalize hw2 : va21.alloc (.cells #[.int .i64 0, .int .i64 0, .slice none 0 0] 24) = va26 at Ky Kx BD ⊢
              clear hw2 hgx
              refine hK _ _ (Till.low trivial BD.out) (fun _ => ?_)
              clear hK K
              (try simp only [Act.put, List.getElem_toArray, List.getElem_cons_succ, List.getElem_cons_zero, List.setIfInBounds_toArray, List.set_cons_zero, List.set_cons_succ])
              refine Ph.ready (rs := [5]) (by kernel_rfl) (by simp) (All.cons rfl (fun K hK => ?_) (All.nil))
              go_simp
              refine (GR1.out _ (HP.out.mono (bt B.out BD.out)) (HLA.out.below (bt B.out BD.out))).mono ?_
              rintro e va27 ⟨⟨V1, V2, E, rfl, hv1, hv2, hE⟩, hb⟩
              replace Ky := Lib.hid (Ky.out.below hb Ky.out.lt)
              replace Kx := Lib.hid (Kx.out.below hb Kx.out.lt)
              replace BD := Lib.hid (bt BD.out hb)
              clear hb
              go_wp2_with fail
              refine hK _ _ (Till.high (by rfl) BD.out) (fun _ => ?_)
              clear hK K
              refine Ph.takeP (i := 6) (v := .tuple #[.agg V1, .agg V2, .int .i64 E]) rfl (fun W => by go_simp) (Till.high (by rfl) BD.out) ?_
              refine Ph.takeP (i := 7) (v := .agg V1) rfl (fun W => by go_simp) (Till.high (by rfl) BD.out) ?_
              refine Ph.takeP (i := 8) (v := .agg V2) rfl (fun W => by go_simp) (Till.high (by rfl) BD.out) ?_
              refine Ph.takeP (i := 9) (v := .int .i64 E) rfl (fun W => by go_simp) (Till.high (by rfl) BD.out) ?_
              (try simp only [Act.put, List.getElem_toArray, List.getElem_cons_succ, List.getElem_cons_zero, List.setIfInBounds_toArray, List.set_cons_zero, List.set_cons_succ])
              refine Ph.ready (rs := [12]) (by kernel_rfl) (by simp) (All.cons rfl (fun K hK => ?_) (All.nil))
              rw [if_pos (by rfl)]
              refine wp_store_row 24 _ _ rfl (gx) 24 #[.int .i64 0, .int .i64 0, .slice none 0 0] V1 rfl rfl (Blk.hs Kx.out) hv1.info ((big_grants _ _ _ _ _).same hv1) hv1.one rfl ?_
              replace Kx := Lib.hid (Kx.out.row_ V1)
              replace Ky := Lib.hid (Ky.out.rowfar (show gy ≠ gx by have := Nyx.out; omega) V1)
              replace BD := Lib.hid (below_setRow BD.out Lx.out V1)
              generalize hw2 : (va27.setRow (gx) V1) = va28 at Ky Kx BD ⊢
              clear hw2
              refine hK _ _ (Till.high (by rfl) BD.out) (fun _ => ?_)
              clear hK K
              (try simp only [Act.put, List.getElem_toArray, List.getElem_cons_succ, List.getElem_cons_zero, List.setIfInBounds_toArray, List.set_cons_zero, List.set_cons_succ])
              refine Ph.ready (rs := [13]) (by kernel_rfl) (by simp) (All.cons rfl (fun K hK => ?_) (All.nil))
              rw [if_pos (by rfl)]
              refine wp_store_row 38 _ _ rfl (gy) 38 leaseZ V2 rfl rfl (Blk.hs Ky.out) hv2.info (big_leaseZ.same hv2) hv2.one rfl ?_
              replace Ky := Lib.hid (Ky.out.row_ V2)
              replace Kx := Lib.hid (Kx.out.rowfar (show gx ≠ gy by have := Nyx.out; omega) V2)
              replace BD := Lib.hid (below_setRow BD.out Ly.out V2)
              generalize hw2 : (va28.setRow (gy) V2) = va29 at Ky Kx BD ⊢
              clear hw2
              refine hK _ _ (Till.high (by rfl) BD.out) (fun _ => ?_)
              clear hK K
              refine Ph.takeP (i := 14) (v := .int .i64 E) rfl (fun W => by go_simp) (Till.high (by rfl) BD.out) ?_
              (try simp only [Act.put, List.getElem_toArray, List.getElem_cons_succ, List.getElem_cons_zero, List.setIfInBounds_toArray, List.set_cons_zero, List.set_cons_succ])
              refine Ph.done (by kernel_rfl) ?_ _
              go_wp2_with fail
              go_meet
              exact ⟨E, rfl, Lib.hid hE, BD⟩
        · go_simp
          obtain ⟨gx, hgx⟩ : ∃ G, va1.heap.size = G := ⟨_, rfl⟩
          have Kx := Lib.hid (Blk.new' va1 24 #[.int .i64 0, .int .i64 0, .slice none 0 0] _ hgx rfl)
          have Lx := Lib.hid (show wr.heap.size ≤ gx from by rw [← hgx]; exact BD.out.size)
          replace BD := Lib.hid (BD.out.alloc BD.out.size (.cells #[.int .i64 0, .int .i64 0, .slice none 0 0] 24))
          try rw [hgx]
          generalize hw2 : va1.alloc (.cells #[.int .i64 0, .int .i64 0, .slice none 0 0] 24) = va30 at Kx BD ⊢
          clear hw2 hgx
          refine hK _ _ (Till.low trivial BD.out) (fun _ => ?_)
          clear hK K
          (try simp only [Act.put, List.getElem_toArray, List.getElem_cons_succ, List.getElem_cons_zero, List.setIfInBounds_toArray, List.set_cons_zero, List.set_cons_succ])
          refine Ph.ready (rs := [1, 11]) (by kernel_rfl) (by simp) (All.cons rfl (fun K hK => ?_) (All.cons rfl (fun K hK => ?_) (All.nil)))
          · go_simp
            refine (sn_key _).mono ?_
            rintro e va31 ⟨rfl, hb⟩
            replace Kx := Lib.hid (Kx.out.below hb Kx.out.lt)
            replace BD := Lib.hid (bt BD.out hb)
            clear hb
            go_wp2_with fail
            refine hK _ _ (Till.low trivial BD.out) (fun _ => ?_)
            clear hK K
            (try simp only [Act.put, List.getElem_toArray, List.getElem_cons_succ, List.getElem_cons_zero, List.setIfInBounds_toArray, List.set_cons_zero, List.set_cons_succ])
            refine Ph.ready (rs := [5, 11]) (by kernel_rfl) (by simp) (All.cons rfl (fun K hK => ?_) (All.cons rfl (fun K hK => ?_) (All.nil)))
            · go_simp
              refine (GR1.out _ (HP.out.mono (bt B.out BD.out)) (HLA.out.below (bt B.out BD.out))).mono ?_
              rintro e va32 ⟨⟨V1, V2, E, rfl, hv1, hv2, hE⟩, hb⟩
              replace Kx := Lib.hid (Kx.out.below hb Kx.out.lt)
              replace BD := Lib.hid (bt BD.out hb)
              clear hb
              go_wp2_with fail
              refine hK _ _ (Till.high (by rfl) BD.out) (fun _ => ?_)
              clear hK K
              refine Ph.takeP (i := 6) (v := .tuple #[.agg V1, .agg V2, .int .i64 E]) rfl (fun W => by go_simp) (Till.high (by rfl) BD.out) ?_
              refine Ph.takeP (i := 7) (v := .agg V1) rfl (fun W => by go_simp) (Till.high (by rfl) BD.out) ?_
              refine Ph.takeP (i := 8) (v := .agg V2) rfl (fun W => by go_simp) (Till.high (by rfl) BD.out) ?_
              refine Ph.takeP (i := 9) (v := .int .i64 E) rfl (fun W => by go_simp) (Till.high (by rfl) BD.out) ?_
              (try simp only [Act.put, List.getElem_toArray, List.getElem_cons_succ, List.getElem_cons_zero, List.setIfInBounds_toArray, List.set_cons_zero, List.set_cons_succ])
              refine Ph.ready (rs := [11]) (by kernel_rfl) (by simp) (All.cons rfl (fun K hK => ?_) (All.nil))
              go_simp
              obtain ⟨gy, hgy⟩ : ∃ G, va32.heap.size = G := ⟨_, rfl⟩
              have Ky := Lib.hid (Blk.new' va32 38 leaseZ _ hgy rfl)
              have Ly := Lib.hid (show wr.heap.size ≤ gy from by rw [← hgy]; exact BD.out.size)
              have Nxy := Lib.hid (show gx < gy from by rw [← hgy]; exact Kx.out.lt)
              replace Kx := Lib.hid (Kx.out.alloc (.cells leaseZ 38))
              replace BD := Lib.hid (BD.out.alloc BD.out.size (.cells leaseZ 38))
              try rw [hgy]
              generalize hw2 : va32.alloc (.cells leaseZ 38) = va33 at Kx Ky BD ⊢
              clear hw2 hgy
              refine hK _ _ (Till.high (by rfl) BD.out) (fun _ => ?_)
              clear hK K
              (try simp only [Act.put, List.getElem_toArray, List.getElem_cons_succ, List.getElem_cons_zero, List.setIfInBounds_toArray, List.set_cons_zero, List.set_cons_succ])
              refine Ph.ready (rs := [12]) (by kernel_rfl) (by simp) (All.cons rfl (fun K hK => ?_) (All.nil))
              rw [if_pos (by rfl)]
              refine wp_store_row 24 _ _ rfl (gx) 24 #[.int .i64 0, .int .i64 0, .slice none 0 0] V1 rfl rfl (Blk.hs Kx.out) hv1.info ((big_grants _ _ _ _ _).same hv1) hv1.one rfl ?_
              replace Kx := Lib.hid (Kx.out.row_ V1)
              replace Ky := Lib.hid (Ky.out.rowfar (show gy ≠ gx by have := Nxy.out; omega) V1)
              replace BD := Lib.hid (below_setRow BD.out Lx.out V1)
              generalize hw2 : (va33.setRow (gx) V1) = va34 at Kx Ky BD ⊢
              clear hw2
              refine hK _ _ (Till.high (by rfl) BD.out) (fun _ => ?_)
              clear hK K
              (try simp only [Act.put, List.getElem_toArray, List.getElem_cons_succ, List.getElem_cons_zero, List.setIfInBounds_toArray, List.set_cons_zero, List.set_cons_succ])
              refine Ph.ready (rs := [13]) (by kernel_rfl) (by simp) (All.cons rfl (fun K hK => ?_) (All.nil))
              rw [if_pos (by rfl)]
              refine wp_store_row 38 _ _ rfl (gy) 38 leaseZ V2 rfl rfl (Blk.hs Ky.out) hv2.info (big_leaseZ.same hv2) hv2.one rfl ?_
              replace Ky := Lib.hid (Ky.out.row_ V2)
              replace Kx := Lib.hid (Kx.out.rowfar (show gx ≠ gy by have := Nxy.out; omega) V2)
              replace BD := Lib.hid (below_setRow BD.out Ly.out V2)
              generalize hw2 : (va34.setRow (gy) V2) = va35 at Kx Ky BD ⊢
              clear hw2
              refine hK _ _ (Till.high (by rfl) BD.out) (fun _ => ?_)
              clear hK K
              refine Ph.takeP (i := 14) (v := .int .i64 E) rfl (fun W => by go_simp) (Till.high (by rfl) BD.out) ?_
              (try simp only [Act.put, List.getElem_toArray, List.getElem_cons_succ, List.getElem_cons_zero, List.setIfInBounds_toArray, List.set_cons_zero, List.set_cons_succ])
              refine Ph.done (by kernel_rfl) ?_ _
              go_wp2_with fail
              go_meet
              exact ⟨E, rfl, Lib.hid hE, BD⟩
            · go_simp
              obtain ⟨gy, hgy⟩ : ∃ G, va31.heap.size = G := ⟨_, rfl⟩
              have Ky := Lib.hid (Blk.new' va31 38 leaseZ _ hgy rfl)
              have Ly := Lib.hid (show wr.heap.size ≤ gy from by rw [← hgy]; exact BD.out.size)
              have Nxy := Lib.hid (show gx < gy from by rw [← hgy]; exact Kx.out.lt)
              replace Kx := Lib.hid (Kx.out.alloc (.cells leaseZ 38))
              replace BD := Lib.hid (BD.out.alloc BD.out.size (.cells leaseZ 38))
              try rw [hgy]
              generalize hw2 : va31.alloc (.cells leaseZ 38) = va36 at Kx Ky BD ⊢
              clear hw2 hgy
              refine hK _ _ (Till.low trivial BD.out) (fun _ => ?_)
              clear hK K
              (try simp only [Act.put, List.getElem_toArray, List.getElem_cons_succ, List.getElem_cons_zero, List.setIfInBounds_toArray, List.set_cons_zero, List.set_cons_succ])
              refine Ph.ready (rs := [5]) (by kernel_rfl) (by simp) (All.cons rfl (fun K hK => ?_) (All.nil))
              go_simp
              refine (GR1.out _ (HP.out.mono (bt B.out BD.out)) (HLA.out.below (bt B.out BD.out))).mono ?_
              rintro e va37 ⟨⟨V1, V2, E, rfl, hv1, hv2, hE⟩, hb⟩
              replace Kx := Lib.hid (Kx.out.below hb Kx.out.lt)
              replace Ky := Lib.hid (Ky.out.below hb Ky.out.lt)
              replace BD := Lib.hid (bt BD.out hb)
              clear hb
              go_wp2_with fail
              refine hK _ _ (Till.high (by rfl) BD.out) (fun _ => ?_)
              clear hK K
              refine Ph.takeP (i := 6) (v := .tuple #[.agg V1, .agg V2, .int .i64 E]) rfl (fun W => by go_simp) (Till.high (by rfl) BD.out) ?_
              refine Ph.takeP (i := 7) (v := .agg V1) rfl (fun W => by go_simp) (Till.high (by rfl) BD.out) ?_
              refine Ph.takeP (i := 8) (v := .agg V2) rfl (fun W => by go_simp) (Till.high (by rfl) BD.out) ?_
              refine Ph.takeP (i := 9) (v := .int .i64 E) rfl (fun W => by go_simp) (Till.high (by rfl) BD.out) ?_
              (try simp only [Act.put, List.getElem_toArray, List.getElem_cons_succ, List.getElem_cons_zero, List.setIfInBounds_toArray, List.set_cons_zero, List.set_cons_succ])
              refine Ph.ready (rs := [12]) (by kernel_rfl) (by simp) (All.cons rfl (fun K hK => ?_) (All.nil))
              rw [if_pos (by rfl)]
              refine wp_store_row 24 _ _ rfl (gx) 24 #[.int .i64 0, .int .i64 0, .slice none 0 0] V1 rfl rfl (Blk.hs Kx.out) hv1.info ((big_grants _ _ _ _ _).same hv1) hv1.one rfl ?_
              replace Kx := Lib.hid (Kx.out.row_ V1)
              replace Ky := Lib.hid (Ky.out.rowfar (show gy ≠ gx by have := Nxy.out; omega) V1)
              replace BD := Lib.hid (below_setRow BD.out Lx.out V1)
              generalize hw2 : (va37.setRow (gx) V1) = va38 at Kx Ky BD ⊢
              clear hw2
              refine hK _ _ (Till.high (by rfl) BD.out) (fun _ => ?_)
              clear hK K
              (try simp only [Act.put, List.getElem_toArray, List.getElem_cons_succ, List.getElem_cons_zero, List.setIfInBounds_toArray, List.set_cons_zero, List.set_cons_succ])
              refine Ph.ready (rs := [13]) (by kernel_rfl) (by simp) (All.cons rfl (fun K hK => ?_) (All.nil))
              rw [if_pos (by rfl)]
              refine wp_store_row 38 _ _ rfl (gy) 38 leaseZ V2 rfl rfl (Blk.hs Ky.out) hv2.info (big_leaseZ.same hv2) hv2.one rfl ?_
              replace Ky := Lib.hid (Ky.out.row_ V2)
              replace Kx := Lib.hid (Kx.out.rowfar (show gx ≠ gy by have := Nxy.out; omega) V2)
              replace BD := Lib.hid (below_setRow BD.out Ly.out V2)
              generalize hw2 : (va38.setRow (gy) V2) = va39 at Kx Ky BD ⊢
              clear hw2
              refine hK _ _ (Till.high (by rfl) BD.out) (fun _ => ?_)
              clear hK K
              refine Ph.takeP (i := 14) (v := .int .i64 E) rfl (fun W => by go_simp) (Till.high (by rfl) BD.out) ?_
              (try simp only [Act.put, List.getElem_toArray, List.getElem_cons_succ, List.getElem_cons_zero, List.setIfInBounds_toArray, List.set_cons_zero, List.set_cons_succ])
              refine Ph.done (by kernel_rfl) ?_ _
              go_wp2_with fail
              go_meet
              exact ⟨E, rfl, Lib.hid hE, BD⟩
          · go_simp
            obtain ⟨gy, hgy⟩ : ∃ G, va30.heap.size = G := ⟨_, rfl⟩
            have Ky := Lib.hid (Blk.new' va30 38 leaseZ _ hgy rfl)
            have Ly := Lib.hid (show wr.heap.size ≤ gy from by rw [← hgy]; exact BD.out.size)
            have Nxy := Lib.hid (show gx < gy from by rw [← hgy]; exact Kx.out.lt)
            replace Kx := Lib.hid (Kx.out.alloc (.cells leaseZ 38))
            replace BD := Lib.hid (BD.out.alloc BD.out.size (.cells leaseZ 38))
            try rw [hgy]
            generalize hw2 : va30.alloc (.cells leaseZ 38) = va40 at Kx Ky BD ⊢
            clear hw2 hgy
            refine hK _ _ (Till.low trivial BD.out) (fun _ => ?_)
            clear hK K
            (try simp only [Act.put, List.getElem_toArray, List.getElem_cons_succ, List.getElem_cons_zero, List.setIfInBounds_toArray, List.set_cons_zero, List.set_cons_succ])
            refine Ph.ready (rs := [1]) (by kernel_rfl) (by simp) (All.cons rfl (fun K hK => ?_) (All.nil))
            go_simp
            refine (sn_key _).mono ?_
            rintro e va41 ⟨rfl, hb⟩
            replace Kx := Lib.hid (Kx.out.below hb Kx.out.lt)
            replace Ky := Lib.hid (Ky.out.below hb Ky.out.lt)
            replace BD := Lib.hid (bt BD.out hb)
            clear hb
            go_wp2_with fail
            refine hK _ _ (Till.low trivial BD.out) (fun _ => ?_)
            clear hK K
            (try simp only [Act.put, List.getElem_toArray, List.getElem_cons_succ, List.getElem_cons_zero, List.setIfInBounds_toArray, List.set_cons_zero, List.set_cons_succ])
            refine Ph.ready (rs := [5]) (by kernel_rfl) (by simp) (All.cons rfl (fun K hK => ?_) (All.nil))
            go_simp
            refine (GR1.out _ (HP.out.mono (bt B.out BD.out)) (HLA.out.below (bt B.out BD.out))).mono ?_
            rintro e va42 ⟨⟨V1, V2, E, rfl, hv1, hv2, hE⟩, hb⟩
            replace Kx := Lib.hid (Kx.out.below hb Kx.out.lt)
            replace Ky := Lib.hid (Ky.out.below hb Ky.out.lt)
            replace BD := Lib.hid (bt BD.out hb)
            clear hb
            go_wp2_with fail
            refine hK _ _ (Till.high (by rfl) BD.out) (fun _ => ?_)
            clear hK K
            refine Ph.takeP (i := 6) (v := .tuple #[.agg V1, .agg V2, .int .i64 E]) rfl (fun W => by go_simp) (Till.high (by rfl) BD.out) ?_
            refine Ph.takeP (i := 7) (v := .agg V1) rfl (fun W => by go_simp) (Till.high (by rfl) BD.out) ?_
            refine Ph.takeP (i := 8) (v := .agg V2) rfl (fun W => by go_simp) (Till.high (by rfl) BD.out) ?_
            refine Ph.takeP (i := 9) (v := .int .i64 E) rfl (fun W => by go_simp) (Till.high (by rfl) BD.out) ?_
            (try simp only [Act.put, List.getElem_toArray, List.getElem_cons_succ, List.getElem_cons_zero, List.setIfInBounds_toArray, List.set_cons_zero, List.set_cons_succ])
            refine Ph.ready (rs := [12]) (by kernel_rfl) (by simp) (All.cons rfl (fun K hK => ?_) (All.nil))
            rw [if_pos (by rfl)]
            refine wp_store_row 24 _ _ rfl (gx) 24 #[.int .i64 0, .int .i64 0, .slice none 0 0] V1 rfl rfl (Blk.hs Kx.out) hv1.info ((big_grants _ _ _ _ _).same hv1) hv1.one rfl ?_
            replace Kx := Lib.hid (Kx.out.row_ V1)
            replace Ky := Lib.hid (Ky.out.rowfar (show gy ≠ gx by have := Nxy.out; omega) V1)
            replace BD := Lib.hid (below_setRow BD.out Lx.out V1)
            generalize hw2 : (va42.setRow (gx) V1) = va43 at Kx Ky BD ⊢
            clear hw2
            refine hK _ _ (Till.high (by rfl) BD.out) (fun _ => ?_)
            clear hK K
            (try simp only [Act.put, List.getElem_toArray, List.getElem_cons_succ, List.getElem_cons_zero, List.setIfInBounds_toArray, List.set_cons_zero, List.set_cons_succ])
            refine Ph.ready (rs := [13]) (by kernel_rfl) (by simp) (All.cons rfl (fun K hK => ?_) (All.nil))
            rw [if_pos (by rfl)]
            refine wp_store_row 38 _ _ rfl (gy) 38 leaseZ V2 rfl rfl (Blk.hs Ky.out) hv2.info (big_leaseZ.same hv2) hv2.one rfl ?_
            replace Ky := Lib.hid (Ky.out.row_ V2)
            replace Kx := Lib.hid (Kx.out.rowfar (show gx ≠ gy by have := Nxy.out; omega) V2)
            replace BD := Lib.hid (below_setRow BD.out Ly.out V2)
            generalize hw2 : (va43.setRow (gy) V2) = va44 at Kx Ky BD ⊢
            clear hw2
            refine hK _ _ (Till.high (by rfl) BD.out) (fun _ => ?_)
            clear hK K
            refine Ph.takeP (i := 14) (v := .int .i64 E) rfl (fun W => by go_simp) (Till.high (by rfl) BD.out) ?_
            (try simp only [Act.put, List.getElem_toArray, List.getElem_cons_succ, List.getElem_cons_zero, List.setIfInBounds_toArray, List.set_cons_zero, List.set_cons_succ])
            refine Ph.done (by kernel_rfl) ?_ _
            go_wp2_with fail
            go_meet
            exact ⟨E, rfl, Lib.hid hE, BD⟩
        · go_simp
          obtain ⟨gy, hgy⟩ : ∃ G, va1.heap.size = G := ⟨_, rfl⟩
          have Ky := Lib.hid (Blk.new' va1 38 leaseZ _ hgy rfl)
          have Ly := Lib.hid (show wr.heap.size ≤ gy from by rw [← hgy]; exact BD.out.size)
          replace BD := Lib.hid (BD.out.alloc BD.out.size (.cells leaseZ 38))
          try rw [hgy]
          generalize hw2 : va1.alloc (.cells leaseZ 38) = va45 at Ky BD ⊢
          clear hw2 hgy
          refine hK _ _ (Till.low trivial BD.out) (fun _ => ?_)
          clear hK K
          (try simp only [Act.put, List.getElem_toArray, List.getElem_cons_succ, List.getElem_cons_zero, List.setIfInBounds_toArray, List.set_cons_zero, List.set_cons_succ])
          refine Ph.ready (rs := [1, 10]) (by kernel_rfl) (by simp) (All.cons rfl (fun K hK => ?_) (All.cons rfl (fun K hK => ?_) (All.nil)))
          · go_simp
            refine (sn_key _).mono ?_
            rintro e va46 ⟨rfl, hb⟩
            replace Ky := Lib.hid (Ky.out.below hb Ky.out.lt)
            replace BD := Lib.hid (bt BD.out hb)
            clear hb
            go_wp2_with fail
            refine hK _ _ (Till.low trivial BD.out) (fun _ => ?_)
            clear hK K
            (try simp only [Act.put, List.getElem_toArray, List.getElem_cons_succ, List.getElem_cons_zero, List.setIfInBounds_toArray, List.set_cons_zero, List.set_cons_succ])
            refine Ph.ready (rs := [5, 10]) (by kernel_rfl) (by simp) (All.cons rfl (fun K hK => ?_) (All.cons rfl (fun K hK => ?_) (All.nil)))
            · go_simp
              refine (GR1.out _ (HP.out.mono (bt B.out BD.out)) (HLA.out.below (bt B.out BD.out))).mono ?_
              rintro e va47 ⟨⟨V1, V2, E, rfl, hv1, hv2, hE⟩, hb⟩
              replace Ky := Lib.hid (Ky.out.below hb Ky.out.lt)
              replace BD := Lib.hid (bt BD.out hb)
              clear hb
              go_wp2_with fail
              refine hK _ _ (Till.high (by rfl) BD.out) (fun _ => ?_)
              clear hK K
              refine Ph.takeP (i := 6) (v := .tuple #[.agg V1, .agg V2, .int .i64 E]) rfl (fun W => by go_simp) (Till.high (by rfl) BD.out) ?_
              refine Ph.takeP (i := 7) (v := .agg V1) rfl (fun W => by go_simp) (Till.high (by rfl) BD.out) ?_
              refine Ph.takeP (i := 8) (v := .agg V2) rfl (fun W => by go_simp) (Till.high (by rfl) BD.out) ?_
              refine Ph.takeP (i := 9) (v := .int .i64 E) rfl (fun W => by go_simp) (Till.high (by rfl) BD.out) ?_
              (try simp only [Act.put, List.getElem_toArray, List.getElem_cons_succ, List.getElem_cons_zero, List.setIfInBounds_toArray, List.set_cons_zero, List.set_cons_succ])
              refine Ph.ready (rs := [10]) (by kernel_rfl) (by simp) (All.cons rfl (fun K hK => ?_) (All.nil))
              go_simp
              obtain ⟨gx, hgx⟩ : ∃ G, va47.heap.size = G := ⟨_, rfl⟩
              have Kx := Lib.hid (Blk.new' va47 24 #[.int .i64 0, .int .i64 0, .slice none 0 0] _ hgx rfl)
              have Lx := Lib.hid (show wr.heap.size ≤ gx from by rw [← hgx]; exact BD.out.size)
              have Nyx := Lib.hid (show gy < gx from by rw [← hgx]; exact Ky.out.lt)
              replace Ky := Lib.hid (Ky.out.alloc (.cells #[.int .i64 0, .int .i64 0, .slice none 0 0] 24))
              replace BD := Lib.hid (BD.out.alloc BD.out.size (.cells #[.int .i64 0, .int .i64 0, .slice none 0 0] 24))
              try rw [hgx]
              generalize hw2 : va47.alloc (.cells #[.int .i64 0, .int .i64 0, .slice none 0 0] 24) = va48 at Ky Kx BD ⊢
              clear hw2 hgx
              refine hK _ _ (Till.high (by rfl) BD.out) (fun _ => ?_)
              clear hK K
              (try simp only [Act.put, List.getElem_toArray, List.getElem_cons_succ, List.getElem_cons_zero, List.setIfInBounds_toArray, List.set_cons_zero, List.set_cons_succ])
              refine Ph.ready (rs := [12]) (by kernel_rfl) (by simp) (All.cons rfl (fun K hK => ?_) (All.nil))
              rw [if_pos (by rfl)]
              refine wp_store_row 24 _ _ rfl (gx) 24 #[.int .i64 0, .int .i64 0, .slice none 0 0] V1 rfl rfl (Blk.hs Kx.out) hv1.info ((big_grants _ _ _ _ _).same hv1) hv1.one rfl ?_
              replace Kx := Lib.hid (Kx.out.row_ V1)
              replace Ky := Lib.hid (Ky.out.rowfar (show gy ≠ gx by have := Nyx.out; omega) V1)
              replace BD := Lib.hid (below_setRow BD.out Lx.out V1)
              generalize hw2 : (va48.setRow (gx) V1) = va49 at Ky Kx BD ⊢
              clear hw2
              refine hK _ _ (Till.high (by rfl) BD.out) (fun _ => ?_)
              clear hK K
              (try simp only [Act.put, List.getElem_toArray, List.getElem_cons_succ, List.getElem_cons_zero, List.setIfInBounds_toArray, List.set_cons_zero, List.set_cons_succ])
              refine Ph.ready (rs := [13]) (by kernel_rfl) (by simp) (All.cons rfl (fun K hK => ?_) (All.nil))
              rw [if_pos (by rfl)]
              refine wp_store_row 38 _ _ rfl (gy) 38 leaseZ V2 rfl rfl (Blk.hs Ky.out) hv2.info (big_leaseZ.same hv2) hv2.one rfl ?_
              replace Ky := Lib.hid (Ky.out.row_ V2)
              replace Kx := Lib.hid (Kx.out.rowfar (show gx ≠ gy by have := Nyx.out; omega) V2)
              replace BD := Lib.hid (below_setRow BD.out Ly.out V2)
              generalize hw2 : (va49.setRow (gy) V2) = va50 at Ky Kx BD ⊢
              clear hw2
              refine hK _ _ (Till.high (by rfl) BD.out) (fun _ => ?_)
              clear hK K
              refine Ph.takeP (i := 14) (v := .int .i64 E) rfl (fun W => by go_simp) (Till.high (by rfl) BD.out) ?_
              (try simp only [Act.put, List.getElem_toArray, List.getElem_cons_succ, List.getElem_cons_zero, List.setIfInBounds_toArray, List.set_cons_zero, List.set_cons_succ])
              refine Ph.done (by kernel_rfl) ?_ _
              go_wp2_with fail
              go_meet
              exact ⟨E, rfl, Lib.hid hE, BD⟩
            · go_simp
              obtain ⟨gx, hgx⟩ : ∃ G, va46.heap.size = G := ⟨_, rfl⟩
              have Kx := Lib.hid (Blk.new' va46 24 #[.int .i64 0, .int .i64 0, .slice none 0 0] _ hgx rfl)
              have Lx := Lib.hid (show wr.heap.size ≤ gx from by rw [← hgx]; exact BD.out.size)
              have Nyx := Lib.hid (show gy < gx from by rw [← hgx]; exact Ky.out.lt)
              replace Ky := Lib.hid (Ky.out.alloc (.cells #[.int .i64 0, .int .i64 0, .slice none 0 0] 24))
              replace BD := Lib.hid (BD.out.alloc BD.out.size (.cells #[.int .i64 0, .int .i64 0, .slice none 0 0] 24))
              try rw [hgx]
              generalize hw2 : va46.alloc (.cells #[.int .i64 0, .int .i64 0, .slice none 0 0] 24) = va51 at Ky Kx BD ⊢
              clear hw2 hgx
              refine hK _ _ (Till.low trivial BD.out) (fun _ => ?_)
              clear hK K
              (try simp only [Act.put, List.getElem_toArray, List.getElem_cons_succ, List.getElem_cons_zero, List.setIfInBounds_toArray, List.set_cons_zero, List.set_cons_succ])
              refine Ph.ready (rs := [5]) (by kernel_rfl) (by simp) (All.cons rfl (fun K hK => ?_) (All.nil))
              go_simp
              refine (GR1.out _ (HP.out.mono (bt B.out BD.out)) (HLA.out.below (bt B.out BD.out))).mono ?_
              rintro e va52 ⟨⟨V1, V2, E, rfl, hv1, hv2, hE⟩, hb⟩
              replace Ky := Lib.hid (Ky.out.below hb Ky.out.lt)
              replace Kx := Lib.hid (Kx.out.below hb Kx.out.lt)
              replace BD := Lib.hid (bt BD.out hb)
              clear hb
              go_wp2_with fail
              refine hK _ _ (Till.high (by rfl) BD.out) (fun _ => ?_)
              clear hK K
              refine Ph.takeP (i := 6) (v := .tuple #[.agg V1, .agg V2, .int .i64 E]) rfl (fun W => by go_simp) (Till.high (by rfl) BD.out) ?_
              refine Ph.takeP (i := 7) (v := .agg V1) rfl (fun W => by go_simp) (Till.high (by rfl) BD.out) ?_
              refine Ph.takeP (i := 8) (v := .agg V2) rfl (fun W => by go_simp) (Till.high (by rfl) BD.out) ?_
              refine Ph.takeP (i := 9) (v := .int .i64 E) rfl (fun W => by go_simp) (Till.high (by rfl) BD.out) ?_
              (try simp only [Act.put, List.getElem_toArray, List.getElem_cons_succ, List.getElem_cons_zero, List.setIfInBounds_toArray, List.set_cons_zero, List.set_cons_succ])
              refine Ph.ready (rs := [12]) (by kernel_rfl) (by simp) (All.cons rfl (fun K hK => ?_) (All.nil))
              rw [if_pos (by rfl)]
              refine wp_store_row 24 _ _ rfl (gx) 24 #[.int .i64 0, .int .i64 0, .slice none 0 0] V1 rfl rfl (Blk.hs Kx.out) hv1.info ((big_grants _ _ _ _ _).same hv1) hv1.one rfl ?_
              replace Kx := Lib.hid (Kx.out.row_ V1)
              replace Ky := Lib.hid (Ky.out.rowfar (show gy ≠ gx by have := Nyx.out; omega) V1)
              replace BD := Lib.hid (below_setRow BD.out Lx.out V1)
              generalize hw2 : (va52.setRow (gx) V1) = va53 at Ky Kx BD ⊢
              clear hw2
              refine hK _ _ (Till.high (by rfl) BD.out) (fun _ => ?_)
              clear hK K
              (try simp only [Act.put, List.getElem_toArray, List.getElem_cons_succ, List.getElem_cons_zero, List.setIfInBounds_toArray, List.set_cons_zero, List.set_cons_succ])
              refine Ph.ready (rs := [13]) (by kernel_rfl) (by simp) (All.cons rfl (fun K hK => ?_) (All.nil))
              rw [if_pos (by rfl)]
              refine wp_store_row 38 _ _ rfl (gy) 38 leaseZ V2 rfl rfl (Blk.hs Ky.out) hv2.info (big_leaseZ.same hv2) hv2.one rfl ?_
              replace Ky := Lib.hid (Ky.out.row_ V2)
              replace Kx := Lib.hid (Kx.out.rowfar (show gx ≠ gy by have := Nyx.out; omega) V2)
              replace BD := Lib.hid (below_setRow BD.out Ly.out V2)
              generalize hw2 : (va53.setRow (gy) V2) = va54 at Ky Kx BD ⊢
              clear hw2
              refine hK _ _ (Till.high (by rfl) BD.out) (fun _ => ?_)
              clear hK K
              refine Ph.takeP (i := 14) (v := .int .i64 E) rfl (fun W => by go_simp) (Till.high (by rfl) BD.out) ?_
              (try simp only [Act.put, List.getElem_toArray, List.getElem_cons_succ, List.getElem_cons_zero, List.setIfInBounds_toArray, List.set_cons_zero, List.set_cons_succ])
              refine Ph.done (by kernel_rfl) ?_ _
              go_wp2_with fail
              go_meet
              exact ⟨E, rfl, Lib.hid hE, BD⟩
          · go_simp
            obtain ⟨gx, hgx⟩ : ∃ G, va45.heap.size = G := ⟨_, rfl⟩
            have Kx := Lib.hid (Blk.new' va45 24 #[.int .i64 0, .int .i64 0, .slice none 0 0] _ hgx rfl)
            have Lx := Lib.hid (show wr.heap.size ≤ gx from by rw [← hgx]; exact BD.out.size)
            have Nyx := Lib.hid (show gy < gx from by rw [← hgx]; exact Ky.out.lt)
            replace Ky := Lib.hid (Ky.out.alloc (.cells #[.int .i64 0, .int .i64 0, .slice none 0 0] 24))
            replace BD := Lib.hid (BD.out.alloc BD.out.size (.cells #[.int .i64 0, .int .i64 0, .slice none 0 0] 24))
            try rw [hgx]
            generalize hw2 : va45.alloc (.cells #[.int .i64 0, .int .i64 0, .slice none 0 0] 24) = va55 at Ky Kx BD ⊢
            clear hw2 hgx
            refine hK _ _ (Till.low trivial BD.out) (fun _ => ?_)
            clear hK K
            (try simp only [Act.put, List.getElem_toArray, List.getElem_cons_succ, List.getElem_cons_zero, List.setIfInBounds_toArray, List.set_cons_zero, List.set_cons_succ])
            refine Ph.ready (rs := [1]) (by kernel_rfl) (by simp) (All.cons rfl (fun K hK => ?_) (All.nil))
            go_simp
            refine (sn_key _).mono ?_
            rintro e va56 ⟨rfl, hb⟩
            replace Ky := Lib.hid (Ky.out.below hb Ky.out.lt)
            replace Kx := Lib.hid (Kx.out.below hb Kx.out.lt)
            replace BD := Lib.hid (bt BD.out hb)
            clear hb
            go_wp2_with fail
            refine hK _ _ (Till.low trivial BD.out) (fun _ => ?_)
            clear hK K
            (try simp only [Act.put, List.getElem_toArray, List.getElem_cons_succ, List.getElem_cons_zero, List.setIfInBounds_toArray, List.set_cons_zero, List.set_cons_succ])
            refine Ph.ready (rs := [5]) (by kernel_rfl) (by simp) (All.cons rfl (fun K hK => ?_) (All.nil))
            go_simp
            refine (GR1.out _ (HP.out.mono (bt B.out BD.out)) (HLA.out.below (bt B.out BD.out))).mono ?_
            rintro e va57 ⟨⟨V1, V2, E, rfl, hv1, hv2, hE⟩, hb⟩
            replace Ky := Lib.hid (Ky.out.below hb Ky.out.lt)
            replace Kx := Lib.hid (Kx.out.below hb Kx.out.lt)
            replace BD := Lib.hid (bt BD.out hb)
            clear hb
            go_wp2_with fail
            refine hK _ _ (Till.high (by rfl) BD.out) (fun _ => ?_)
            clear hK K
            refine Ph.takeP (i := 6) (v := .tuple #[.agg V1, .agg V2, .int .i64 E]) rfl (fun W => by go_simp) (Till.high (by rfl) BD.out) ?_
            refine Ph.takeP (i := 7) (v := .agg V1) rfl (fun W => by go_simp) (Till.high (by rfl) BD.out) ?_
            refine Ph.takeP (i := 8) (v := .agg V2) rfl (fun W => by go_simp) (Till.high (by rfl) BD.out) ?_
            refine Ph.takeP (i := 9) (v := .int .i64 E) rfl (fun W => by go_simp) (Till.high (by rfl) BD.out) ?_
            (try simp only [Act.put, List.getElem_toArray, List.getElem_cons_succ, List.getElem_cons_zero, List.setIfInBounds_toArray, List.set_cons_zero, List.set_cons_succ])
            refine Ph.ready (rs := [12]) (by kernel_rfl) (by simp) (All.cons rfl (fun K hK => ?_) (All.nil))
            rw [if_pos (by rfl)]
            refine wp_store_row 24 _ _ rfl (gx) 24 #[.int .i64 0, .int .i64 0, .slice none 0 0] V1 rfl rfl (Blk.hs Kx.out) hv1.info ((big_grants _ _ _ _ _).same hv1) hv1.one rfl ?_
            replace Kx := Lib.hid (Kx.out.row_ V1)
            replace Ky := Lib.hid (Ky.out.rowfar (show gy ≠ gx by have := Nyx.out; omega) V1)
            replace BD := Lib.hid (below_setRow BD.out Lx.out V1)
            generalize hw2 : (va57.setRow (gx) V1) = va58 at Ky Kx BD ⊢
            clear hw2
            refine hK _ _ (Till.high (by rfl) BD.out) (fun _ => ?_)
            clear hK K
            (try simp only [Act.put, List.getElem_toArray, List.getElem_cons_succ, List.getElem_cons_zero, List.setIfInBounds_toArray, List.set_cons_zero, List.set_cons_succ])
            refine Ph.ready (rs := [13]) (by kernel_rfl) (by simp) (All.cons rfl (fun K hK => ?_) (All.nil))
            rw [if_pos (by rfl)]
            refine wp_store_row 38 _ _ rfl (gy) 38 leaseZ V2 rfl rfl (Blk.hs Ky.out) hv2.info (big_leaseZ.same hv2) hv2.one rfl ?_
            replace Ky := Lib.hid (Ky.out.row_ V2)
            replace Kx := Lib.hid (Kx.out.rowfar (show gx ≠ gy by have := Nyx.out; omega) V2)
            replace BD := Lib.hid (below_setRow BD.out Ly.out V2)
            generalize hw2 : (va58.setRow (gy) V2) = va59 at Ky Kx BD ⊢
            clear hw2
            refine hK _ _ (Till.high (by rfl) BD.out) (fun _ => ?_)
            clear hK K
            refine Ph.takeP (i := 14) (v := .int .i64 E) rfl (fun W => by go_simp) (Till.high (by rfl) BD.out) ?_
            (try simp only [Act.put, List.getElem_toArray, List.getElem_cons_succ, List.getElem_cons_zero, List.setIfInBounds_toArray, List.set_cons_zero, List.set_cons_succ])
            refine Ph.done (by kernel_rfl) ?_ _
            go_wp2_with fail
            go_meet
            exact ⟨E, rfl, Lib.hid hE, BD⟩
      obtain ⟨E, rfl, HEE, XB⟩ := hcut
      have hb := XB.out
      clear XB
      replace Kg := Lib.hid (Kg.out.below hb Kg.out.lt)
      replace Kp := Lib.hid (Kp.out.below hb Kp.out.lt)
      replace B := Lib.hid (B.out.trans (hb.mono B.out.size))
      clear hb
      obtain ⟨bgc0, bgc1, bgc2⟩ := three Kg.out
      obtain ⟨bpc0, bpc1⟩ := twob Kp.out
      go_upto_region 11 with (fail)
      go_cut [104] from 90 to 103 (fun u104 wx => u104 = .bool false ∧ wx = wc)
      case first =>
        rcases HEE.out with ⟨rfl, e2⟩ | ⟨rfl, e2⟩
        · have t6 : (x2 == la) = true := beq_iff_eq.2 e2
          clear e2
          go_wp2
          go_meet
          exact ⟨rfl, rfl⟩
        · have t6 : (x2 == la) = false := beq_eq_false_iff_ne.2 e2
          clear e2
          go_wp2
          go_meet
          exact ⟨rfl, rfl⟩
      obtain ⟨rfl, rfl⟩ := hcut
      clear HEE
      have Qg := Lib.hid Kg.out.lt
      go_wp2_with fail
      refine (CF.out _ (HP.out.mono B.out)).mono ?_
      rintro e w21 ⟨⟨a2, c2, rfl, hr, hf⟩, hb⟩
      have Z2 := Lib.hid hr
      have F2 := Lib.hid hf
      replace Kg := Lib.hid (Kg.out.below hb Kg.out.lt)
      replace Kp := Lib.hid (Kp.out.below hb Kp.out.lt)
      replace B := Lib.hid (B.out.trans (hb.mono B.out.size))
      clear bgc0 bgc1 bgc2 bpc0 bpc1
      clear hb hr hf
      obtain ⟨bgc0, bgc1, bgc2⟩ := three Kg.out
      obtain ⟨bpc0, bpc1⟩ := twob Kp.out
      have R2 := Z2
      clear Z2
      have E2g := Lib.hid (show ∀ p, a2 = some p → p.block ≠ G from fun p hp => by have h1 := F2.out p hp; have h2 := Qg.out; omega)
      clear F2 Qg
      clear bgc0 bgc1 bgc2 bpc0 bpc1
      obtain ⟨bgc0, bgc1, bgc2⟩ := three Kg.out
      obtain ⟨bpc0, bpc1⟩ := twob Kp.out
      obtain ⟨gc, hgc⟩ : ∃ G, w21.heap.size = G := ⟨_, rfl⟩
      have Kc := Lib.hid (show Blk (w21.alloc (.cells #[.int .i64 la, .int .i64 mo, .slice a2 L2.length c2] 24)) gc 24 #[.int .i64 la, .int .i64 mo, .slice a2 L2.length c2] from Blk.new' w21 _ _ _ hgc rfl)
      have Ngc := Lib.hid (show G < gc from by rw [← hgc]; exact Kg.out.lt)
      replace Kg := Lib.hid (Kg.out.alloc (.cells #[.int .i64 la, .int .i64 mo, .slice a2 L2.length c2] 24))
      have Npc := Lib.hid (show G + 1 < gc from by rw [← hgc]; exact Kp.out.lt)
      replace Kp := Lib.hid (Kp.out.alloc (.cells #[.int .i64 la, .int .i64 mo, .slice a2 L2.length c2] 24))
      replace R2 := Lib.hid (R2.out.mono ((Below.refl _ w21).alloc (Nat.le_refl _) (.cells #[.int .i64 la, .int .i64 mo, .slice a2 L2.length c2] 24)))
      have Lc := Lib.hid (show w.heap.size ≤ gc from by rw [← hgc]; exact B.out.size)
      replace B := Lib.hid (B.out.alloc B.out.size (.cells #[.int .i64 la, .int .i64 mo, .slice a2 L2.length c2] 24))
      go_upto_region 14 with (fail)
      try rw [hgc]
      generalize hw : w21.alloc (.cells #[.int .i64 la, .int .i64 mo, .slice a2 L2.length c2] 24) = w22 at Kg Kp Kc R2 B ⊢
      clear bgc0 bgc1 bgc2 bpc0 bpc1
      clear hw hgc
      clear E2g
      go_cut [17, 18, 19] from 113 to 122 (fun u17 u18 u19 wx => u19 = .int .i64 0 ∧ ∃ gd gm a3 c3, u17 = .pointer (some ⟨gd, 0, none⟩) ∧ u18 = .pointer (some ⟨gm, 0, none⟩) ∧ Hid (Blk wx gd 24 #[.int .i64 la, .int .i64 mo, .slice a3 L3.length c3]) ∧ Hid (Blk wx gm 38 LC) ∧ Hid (GrA wx a3 L3) ∧ Hid (Below w22.heap.size w22 wx))
      case first =>
        refine Ph.start (S := Till 5 (fun _ => True) (fun W => Below w22.heap.size w22 W)) (by kernel_rfl) (Till.low trivial (Below.refl _ _).drew) (fun _ => ?_)
        have BD := Lib.hid (Below.refl w22.heap.size w22).drew
        generalize w22.drew = vb1 at BD ⊢
        refine Ph.takeU (i := 0) (v := .agg #[.int .i64 la, .int .i64 mo, .slice a2 L2.length c2]) rfl (Or.inl ⟨by rfl, fun W hW => exec_load_row 24 _ rfl (gc) rfl 24 #[.int .i64 la, .int .i64 mo, .slice a2 L2.length c2] (0, 0) _ (Kc.out.below hW Kc.out.lt) Tryd.underlying24 rfl (big_grants _ _ _ _ _).info⟩) (Till.low trivial BD.out) ?_
        refine Ph.takeP (i := 2) (v := .int .i64 m) rfl (fun W => by go_simp) (Till.low trivial BD.out) ?_
        refine Ph.takeU (i := 3) (v := .agg #[.int .i64 lo, .int .i64 hi]) rfl (Or.inl ⟨by rfl, fun W hW => exec_load_row 28 _ rfl (G + 1) rfl 28 #[.int .i64 lo, .int .i64 hi] (0, 0) _ (Kp.out.below hW Kp.out.lt) Tryd.underlying28 rfl (big_per _ _).info⟩) (Till.low trivial BD.out) ?_
        refine Ph.takeP (i := 4) (v := .int .i64 len) rfl (fun W => by go_simp) (Till.low trivial BD.out) ?_
        (try simp only [Act.put, List.getElem_toArray, List.getElem_cons_succ, List.getElem_cons_zero, List.setIfInBounds_toArray, List.set_cons_zero, List.set_cons_succ])
        refine Ph.ready (rs := [1, 10, 11]) (by kernel_rfl) (by simp) (All.cons rfl (fun K hK => ?_) (All.cons rfl (fun K hK => ?_) (All.cons rfl (fun K hK => ?_) (All.nil))))
        · go_simp
          refine (sn_key _).mono ?_
          rintro e vb2 ⟨rfl, hb⟩
          replace BD := Lib.hid (bt BD.out hb)
          clear hb
          go_wp2_with fail
          refine hK _ _ (Till.low trivial BD.out) (fun _ => ?_)
          clear hK K
          (try simp only [Act.put, List.getElem_toArray, List.getElem_cons_succ, List.getElem_cons_zero, List.setIfInBounds_toArray, List.set_cons_zero, List.set_cons_succ])
          refine Ph.ready (rs := [5, 10, 11]) (by kernel_rfl) (by simp) (All.cons rfl (fun K hK => ?_) (All.cons rfl (fun K hK => ?_) (All.cons rfl (fun K hK => ?_) (All.nil))))
          · go_simp
            refine (GR2.out a2 c2 _ (R2.out.mono BD.out) (HLA.out.below (bt B.out BD.out))).mono ?_
            rintro e vb3 ⟨⟨a3, c3, rfl, hr, hf⟩, hb⟩
            have R3 := Lib.hid hr
            have F3 := Lib.hid (show ∀ p, a3 = some p → w22.heap.size ≤ p.block from fun p hp => Nat.le_trans BD.out.size (hf p hp))
            clear hr hf
            replace BD := Lib.hid (bt BD.out hb)
            clear hb
            go_wp2_with fail
            refine hK _ _ (Till.high (by rfl) BD.out) (fun _ => ?_)
            clear hK K
            refine Ph.takeP (i := 6) (v := .tuple #[.agg #[.int .i64 la, .int .i64 mo, .slice a3 L3.length c3], .agg LC, .int .i64 0]) rfl (fun W => by go_simp) (Till.high (by rfl) BD.out) ?_
            refine Ph.takeP (i := 7) (v := .agg #[.int .i64 la, .int .i64 mo, .slice a3 L3.length c3]) rfl (fun W => by go_simp) (Till.high (by rfl) BD.out) ?_
            refine Ph.takeP (i := 8) (v := .agg LC) rfl (fun W => by go_simp) (Till.high (by rfl) BD.out) ?_
            refine Ph.takeP (i := 9) (v := .int .i64 0) rfl (fun W => by go_simp) (Till.high (by rfl) BD.out) ?_
            (try simp only [Act.put, List.getElem_toArray, List.getElem_cons_succ, List.getElem_cons_zero, List.setIfInBounds_toArray, List.set_cons_zero, List.set_cons_succ])
            refine Ph.ready (rs := [10, 11]) (by kernel_rfl) (by simp) (All.cons rfl (fun K hK => ?_) (All.cons rfl (fun K hK => ?_) (All.nil)))
            · go_simp
              obtain ⟨gd, hgd⟩ : ∃ G, vb3.heap.size = G := ⟨_, rfl⟩
              have Kd := Lib.hid (Blk.new' vb3 24 #[.int .i64 0, .int .i64 0, .slice none 0 0] _ hgd rfl)
              have Ld := Lib.hid (show w22.heap.size ≤ gd from by rw [← hgd]; exact BD.out.size)
              have E3d := Lib.hid (show ∀ p, a3 = some p → p.block ≠ gd from fun p hp => by have h1 := rows_lt R3.out LP.out p hp; omega)
              replace R3 := Lib.hid (R3.out.mono ((Below.refl _ vb3).alloc (Nat.le_refl _) (.cells #[.int .i64 0, .int .i64 0, .slice none 0 0] 24)))
              replace BD := Lib.hid (BD.out.alloc BD.out.size (.cells #[.int .i64 0, .int .i64 0, .slice none 0 0] 24))
              try rw [hgd]
              generalize hw2 : vb3.alloc (.cells #[.int .i64 0, .int .i64 0, .slice none 0 0] 24) = vb4 at Kd R3 BD ⊢
              clear hw2 hgd
              refine hK _ _ (Till.high (by rfl) BD.out) (fun _ => ?_)
              clear hK K
              (try simp only [Act.put, List.getElem_toArray, List.getElem_cons_succ, List.getElem_cons_zero, List.setIfInBounds_toArray, List.set_cons_zero, List.set_cons_succ])
              refine Ph.ready (rs := [11]) (by kernel_rfl) (by simp) (All.cons rfl (fun K hK => ?_) (All.nil))
              go_simp
              obtain ⟨gm, hgm⟩ : ∃ G, vb4.heap.size = G := ⟨_, rfl⟩
              have Km := Lib.hid (Blk.new' vb4 38 leaseZ _ hgm rfl)
              have Lm := Lib.hid (show w22.heap.size ≤ gm from by rw [← hgm]; exact BD.out.size)
              have Ndm := Lib.hid (show gd < gm from by rw [← hgm]; exact Kd.out.lt)
              replace Kd := Lib.hid (Kd.out.alloc (.cells leaseZ 38))
              have E3m := Lib.hid (show ∀ p, a3 = some p → p.block ≠ gm from fun p hp => by have h1 := rows_lt R3.out LP.out p hp; omega)
              replace R3 := Lib.hid (R3.out.mono ((Below.refl _ vb4).alloc (Nat.le_refl _) (.cells leaseZ 38)))
              replace BD := Lib.hid (BD.out.alloc BD.out.size (.cells leaseZ 38))
              try rw [hgm]
              generalize hw2 : vb4.alloc (.cells leaseZ 38) = vb5 at Kd Km R3 BD ⊢
              clear hw2 hgm
              refine hK _ _ (Till.high (by rfl) BD.out) (fun _ => ?_)
              clear hK K
              (try simp only [Act.put, List.getElem_toArray, List.getElem_cons_succ, List.getElem_cons_zero, List.setIfInBounds_toArray, List.set_cons_zero, List.set_cons_succ])
              refine Ph.ready (rs := [12]) (by kernel_rfl) (by simp) (All.cons rfl (fun K hK => ?_) (All.nil))
              rw [if_pos (by rfl)]
              refine wp_store_row 24 _ _ rfl (gd) 24 #[.int .i64 0, .int .i64 0, .slice none 0 0] #[.int .i64 la, .int .i64 mo, .slice a3 L3.length c3] rfl rfl (Blk.hs Kd.out) (big_grants _ _ _ _ _).info ((big_grants _ _ _ _ _).same (big_grants _ _ _ _ _)) (big_grants _ _ _ _ _).one rfl ?_
              replace Kd := Lib.hid (Kd.out.row_ #[.int .i64 la, .int .i64 mo, .slice a3 L3.length c3])
              replace Km := Lib.hid (Km.out.rowfar (show gm ≠ gd by have := Ndm.out; omega) #[.int .i64 la, .int .i64 mo, .slice a3 L3.length c3])
              replace R3 := Lib.hid (RowsA.rowfar R3.out E3d.out #[.int .i64 la, .int .i64 mo, .slice a3 L3.length c3])
              replace BD := Lib.hid (below_setRow BD.out Ld.out #[.int .i64 la, .int .i64 mo, .slice a3 L3.length c3])
              generalize hw2 : (vb5.setRow (gd) #[.int .i64 la, .int .i64 mo, .slice a3 L3.length c3]) = vb6 at Kd Km R3 BD ⊢
              clear hw2
              refine hK _ _ (Till.high (by rfl) BD.out) (fun _ => ?_)
              clear hK K
              (try simp only [Act.put, List.getElem_toArray, List.getElem_cons_succ, List.getElem_cons_zero, List.setIfInBounds_toArray, List.set_cons_zero, List.set_cons_succ])
              refine Ph.ready (rs := [13]) (by kernel_rfl) (by simp) (All.cons rfl (fun K hK => ?_) (All.nil))
              rw [if_pos (by rfl)]
              refine wp_store_row 38 _ _ rfl (gm) 38 leaseZ LC rfl rfl (Blk.hs Km.out) BNm.out.info (big_leaseZ.same BNm.out) BNm.out.one rfl ?_
              replace Km := Lib.hid (Km.out.row_ LC)
              replace Kd := Lib.hid (Kd.out.rowfar (show gd ≠ gm by have := Ndm.out; omega) LC)
              replace R3 := Lib.hid (RowsA.rowfar R3.out E3m.out LC)
              replace BD := Lib.hid (below_setRow BD.out Lm.out LC)
              generalize hw2 : (vb6.setRow (gm) LC) = vb7 at Kd Km R3 BD ⊢
              clear hw2
              refine hK _ _ (Till.high (by rfl) BD.out) (fun _ => ?_)
              clear hK K
              refine Ph.takeP (i := 14) (v := .int .i64 0) rfl (fun W => by go_simp) (Till.high (by rfl) BD.out) ?_
              (try simp only [Act.put, List.getElem_toArray, List.getElem_cons_succ, List.getElem_cons_zero, List.setIfInBounds_toArray, List.set_cons_zero, List.set_cons_succ])
              refine Ph.done (by kernel_rfl) ?_ _
              go_wp2_with fail
              go_meet
              exact ⟨rfl, gd, gm, a3, c3, rfl, rfl, Kd, Km, R3, BD⟩
            · go_simp
              obtain ⟨gm, hgm⟩ : ∃ G, vb3.heap.size = G := ⟨_, rfl⟩
              have Km := Lib.hid (Blk.new' vb3 38 leaseZ _ hgm rfl)
              have Lm := Lib.hid (show w22.heap.size ≤ gm from by rw [← hgm]; exact BD.out.size)
              have E3m := Lib.hid (show ∀ p, a3 = some p → p.block ≠ gm from fun p hp => by have h1 := rows_lt R3.out LP.out p hp; omega)
              replace R3 := Lib.hid (R3.out.mono ((Below.refl _ vb3).alloc (Nat.le_refl _) (.cells leaseZ 38)))
              replace BD := Lib.hid (BD.out.alloc BD.out.size (.cells leaseZ 38))
              try rw [hgm]
              generalize hw2 : vb3.alloc (.cells leaseZ 38) = vb8 at Km R3 BD ⊢
              clear hw2 hgm
              refine hK _ _ (Till.high (by rfl) BD.out) (fun _ => ?_)
              clear hK K
              (try simp only [Act.put, List.getElem_toArray, List.getElem_cons_succ, List.getElem_cons_zero, List.setIfInBounds_toArray, List.set_cons_zero, List.set_cons_succ])
              refine Ph.ready (rs := [10]) (by kernel_rfl) (by simp) (All.cons rfl (fun K hK => ?_) (All.nil))
              go_simp
              obtain ⟨gd, hgd⟩ : ∃ G, vb8.heap.size = G := ⟨_, rfl⟩
              have Kd := Lib.hid (Blk.new' vb8 24 #[.int .i64 0, .int .i64 0, .slice none 0 0] _ hgd rfl)
              have Ld := Lib.hid (show w22.heap.size ≤ gd from by rw [← hgd]; exact BD.out.size)
              have Nmd := Lib.hid (show gm < gd from by rw [← hgd]; exact Km.out.lt)
              replace Km := Lib.hid (Km.out.alloc (.cells #[.int .i64 0, .int .i64 0, .slice none 0 0] 24))
              have E3d := Lib.hid (show ∀ p, a3 = some p → p.block ≠ gd from fun p hp => by have h1 := rows_lt R3.out LP.out p hp; omega)
              replace R3 := Lib.hid (R3.out.mono ((Below.refl _ vb8).alloc (Nat.le_refl _) (.cells #[.int .i64 0, .int .i64 0, .slice none 0 0] 24)))
              replace BD := Lib.hid (BD.out.alloc BD.out.size (.cells #[.int .i64 0, .int .i64 0, .slice none 0 0] 24))
              try rw [hgd]
              generalize hw2 : vb8.alloc (.cells #[.int .i64 0, .int .i64 0, .slice none 0 0] 24) = vb9 at Km Kd R3 BD ⊢
              clear hw2 hgd
              refine hK _ _ (Till.high (by rfl) BD.out) (fun _ => ?_)
              clear hK K
              (try simp only [Act.put, List.getElem_toArray, List.getElem_cons_succ, List.getElem_cons_zero, List.setIfInBounds_toArray, List.set_cons_zero, List.set_cons_succ])
              refine Ph.ready (rs := [12]) (by kernel_rfl) (by simp) (All.cons rfl (fun K hK => ?_) (All.nil))
              rw [if_pos (by rfl)]
              refine wp_store_row 24 _ _ rfl (gd) 24 #[.int .i64 0, .int .i64 0, .slice none 0 0] #[.int .i64 la, .int .i64 mo, .slice a3 L3.length c3] rfl rfl (Blk.hs Kd.out) (big_grants _ _ _ _ _).info ((big_grants _ _ _ _ _).same (big_grants _ _ _ _ _)) (big_grants _ _ _ _ _).one rfl ?_
              replace Kd := Lib.hid (Kd.out.row_ #[.int .i64 la, .int .i64 mo, .slice a3 L3.length c3])
              replace Km := Lib.hid (Km.out.rowfar (show gm ≠ gd by have := Nmd.out; omega) #[.int .i64 la, .int .i64 mo, .slice a3 L3.length c3])
              replace R3 := Lib.hid (RowsA.rowfar R3.out E3d.out #[.int .i64 la, .int .i64 mo, .slice a3 L3.length c3])
              replace BD := Lib.hid (below_setRow BD.out Ld.out #[.int .i64 la, .int .i64 mo, .slice a3 L3.length c3])
              generalize hw2 : (vb9.setRow (gd) #[.int .i64 la, .int .i64 mo, .slice a3 L3.length c3]) = vb10 at Km Kd R3 BD ⊢
              clear hw2
              refine hK _ _ (Till.high (by rfl) BD.out) (fun _ => ?_)
              clear hK K
              (try simp only [Act.put, List.getElem_toArray, List.getElem_cons_succ, List.getElem_cons_zero, List.setIfInBounds_toArray, List.set_cons_zero, List.set_cons_succ])
              refine Ph.ready (rs := [13]) (by kernel_rfl) (by simp) (All.cons rfl (fun K hK => ?_) (All.nil))
              rw [if_pos (by rfl)]
              refine wp_store_row 38 _ _ rfl (gm) 38 leaseZ LC rfl rfl (Blk.hs Km.out) BNm.out.info (big_leaseZ.same BNm.out) BNm.out.one rfl ?_
              replace Km := Lib.hid (Km.out.row_ LC)
              replace Kd := Lib.hid (Kd.out.rowfar (show gd ≠ gm by have := Nmd.out; omega) LC)
              replace R3 := Lib.hid (RowsA.rowfar R3.out E3m.out LC)
              replace BD := Lib.hid (below_setRow BD.out Lm.out LC)
              generalize hw2 : (vb10.setRow (gm) LC) = vb11 at Km Kd R3 BD ⊢
              clear hw2
              refine hK _ _ (Till.high (by rfl) BD.out) (fun _ => ?_)
              clear hK K
              refine Ph.takeP (i := 14) (v := .int .i64 0) rfl (fun W => by go_simp) (Till.high (by rfl) BD.out) ?_
              (try simp only [Act.put, List.getElem_toArray, List.getElem_cons_succ, List.getElem_cons_zero, List.setIfInBounds_toArray, List.set_cons_zero, List.set_cons_succ])
              refine Ph.done (by kernel_rfl) ?_ _
              go_wp2_with fail
              go_meet
              exact ⟨rfl, gd, gm, a3, c3, rfl, rfl, Kd, Km, R3, BD⟩
          · go_simp
            obtain ⟨gd, hgd⟩ : ∃ G, vb2.heap.size = G := ⟨_, rfl⟩
            have Kd := Lib.hid (Blk.new' vb2 24 #[.int .i64 0, .int .i64 0, .slice none 0 0] _ hgd rfl)
            have Ld := Lib.hid (show w22.heap.size ≤ gd from by rw [← hgd]; exact BD.out.size)
            replace BD := Lib.hid (BD.out.alloc BD.out.size (.cells #[.int .i64 0, .int .i64 0, .slice none 0 0] 24))
            try rw [hgd]
            generalize hw2 : vb2.alloc (.cells #[.int .i64 0, .int .i64 0, .slice none 0 0] 24) = vb12 at Kd BD ⊢
            clear hw2 hgd
            refine hK _ _ (Till.low trivial BD.out) (fun _ => ?_)
            clear hK K
            (try simp only [Act.put, List.getElem_toArray, List.getElem_cons_succ, List.getElem_cons_zero, List.setIfInBounds_toArray, List.set_cons_zero, List.set_cons_succ])
            refine Ph.ready (rs := [5, 11]) (by kernel_rfl) (by simp) (All.cons rfl (fun K hK => ?_) (All.cons rfl (fun K hK => ?_) (All.nil)))
            · go_simp
              refine (GR2.out a2 c2 _ (R2.out.mono BD.out) (HLA.out.below (bt B.out BD.out))).mono ?_
              rintro e vb13 ⟨⟨a3, c3, rfl, hr, hf⟩, hb⟩
              have Qd := Lib.hid Kd.out.lt
              replace Kd := Lib.hid (Kd.out.below hb Kd.out.lt)
              have R3 := Lib.hid hr
              have F3 := Lib.hid (show ∀ p, a3 = some p → w22.heap.size ≤ p.block from fun p hp => Nat.le_trans BD.out.size (hf p hp))
              have E3d := Lib.hid (show ∀ p, a3 = some p → p.block ≠ gd from fun p hp => by have h1 := hf p hp; have h2 := Qd.out; omega)
              clear hr hf Qd
              replace BD := Lib.hid (bt BD.out hb)
              clear hb
              go_wp2_with fail
              refine hK _ _ (Till.high (by rfl) BD.out) (fun _ => ?_)
              clear hK K
              refine Ph.takeP (i := 6) (v := .tuple #[.agg #[.int .i64 la, .int .i64 mo, .slice a3 L3.length c3], .agg LC, .int .i64 0]) rfl (fun W => by go_simp) (Till.high (by rfl) BD.out) ?_
              refine Ph.takeP (i := 7) (v := .agg #[.int .i64 la, .int .i64 mo, .slice a3 L3.length c3]) rfl (fun W => by go_simp) (Till.high (by rfl) BD.out) ?_
              refine Ph.takeP (i := 8) (v := .agg LC) rfl (fun W => by go_simp) (Till.high (by rfl) BD.out) ?_
              refine Ph.takeP (i := 9) (v := .int .i64 0) rfl (fun W => by go_simp) (Till.high (by rfl) BD.out) ?_
              (try simp only [Act.put, List.getElem_toArray, List.getElem_cons_succ, List.getElem_cons_zero, List.setIfInBounds_toArray, List.set_cons_zero, List.set_cons_succ])
              refine Ph.ready (rs := [11]) (by kernel_rfl) (by simp) (All.cons rfl (fun K hK => ?_) (All.nil))
              go_simp
              obtain ⟨gm, hgm⟩ : ∃ G, vb13.heap.size = G := ⟨_, rfl⟩
              have Km := Lib.hid (Blk.new' vb13 38 leaseZ _ hgm rfl)
              have Lm := Lib.hid (show w22.heap.size ≤ gm from by rw [← hgm]; exact BD.out.size)
              have Ndm := Lib.hid (show gd < gm from by rw [← hgm]; exact Kd.out.lt)
              replace Kd := Lib.hid (Kd.out.alloc (.cells leaseZ 38))
              have E3m := Lib.hid (show ∀ p, a3 = some p → p.block ≠ gm from fun p hp => by have h1 := rows_lt R3.out LP.out p hp; omega)
              replace R3 := Lib.hid (R3.out.mono ((Below.refl _ vb13).alloc (Nat.le_refl _) (.cells leaseZ 38)))
              replace BD := Lib.hid (BD.out.alloc BD.out.size (.cells leaseZ 38))
              try rw [hgm]
              generalize hw2 : vb13.alloc (.cells leaseZ 38) = vb14 at Kd Km R3 BD ⊢
              clear hw2 hgm
              refine hK _ _ (Till.high (by rfl) BD.out) (fun _ => ?_)
              clear hK K
              (try simp only [Act.put, List.getElem_toArray, List.getElem_cons_succ, List.getElem_cons_zero, List.setIfInBounds_toArray, List.set_cons_zero, List.set_cons_succ])
              refine Ph.ready (rs := [12]) (by kernel_rfl) (by simp) (All.cons rfl (fun K hK => ?_) (All.nil))
              rw [if_pos (by rfl)]
              refine wp_store_row 24 _ _ rfl (gd) 24 #[.int .i64 0, .int .i64 0, .slice none 0 0] #[.int .i64 la, .int .i64 mo, .slice a3 L3.length c3] rfl rfl (Blk.hs Kd.out) (big_grants _ _ _ _ _).info ((big_grants _ _ _ _ _).same (big_grants _ _ _ _ _)) (big_grants _ _ _ _ _).one rfl ?_
              replace Kd := Lib.hid (Kd.out.row_ #[.int .i64 la, .int .i64 mo, .slice a3 L3.length c3])
              replace Km := Lib.hid (Km.out.rowfar (show gm ≠ gd by have := Ndm.out; omega) #[.int .i64 la, .int .i64 mo, .slice a3 L3.length c3])
              replace R3 := Lib.hid (RowsA.rowfar R3.out E3d.out #[.int .i64 la, .int .i64 mo, .slice a3 L3.length c3])
              replace BD := Lib.hid (below_setRow BD.out Ld.out #[.int .i64 la, .int .i64 mo, .slice a3 L3.length c3])
              generalize hw2 : (vb14.setRow (gd) #[.int .i64 la, .int .i64 mo, .slice a3 L3.length c3]) = vb15 at Kd Km R3 BD ⊢
              clear hw2
              refine hK _ _ (Till.high (by rfl) BD.out) (fun _ => ?_)
              clear hK K
              (try simp only [Act.put, List.getElem_toArray, List.getElem_cons_succ, List.getElem_cons_zero, List.setIfInBounds_toArray, List.set_cons_zero, List.set_cons_succ])
              refine Ph.ready (rs := [13]) (by kernel_rfl) (by simp) (All.cons rfl (fun K hK => ?_) (All.nil))
              rw [if_pos (by rfl)]
              refine wp_store_row 38 _ _ rfl (gm) 38 leaseZ LC rfl rfl (Blk.hs Km.out) BNm.out.info (big_leaseZ.same BNm.out) BNm.out.one rfl ?_
              replace Km := Lib.hid (Km.out.row_ LC)
              replace Kd := Lib.hid (Kd.out.rowfar (show gd ≠ gm by have := Ndm.out; omega) LC)
              replace R3 := Lib.hid (RowsA.rowfar R3.out E3m.out LC)
              replace BD := Lib.hid (below_setRow BD.out Lm.out LC)
              generalize hw2 : (vb15.setRow (gm) LC) = vb16 at Kd Km R3 BD ⊢
              clear hw2
              refine hK _ _ (Till.high (by rfl) BD.out) (fun _ => ?_)
              clear hK K
              refine Ph.takeP (i := 14) (v := .int .i64 0) rfl (fun W => by go_simp) (Till.high (by rfl) BD.out) ?_
              (try simp only [Act.put, List.getElem_toArray, List.getElem_cons_succ, List.getElem_cons_zero, List.setIfInBounds_toArray, List.set_cons_zero, List.set_cons_succ])
              refine Ph.done (by kernel_rfl) ?_ _
              go_wp2_with fail
              go_meet
              exact ⟨rfl, gd, gm, a3, c3, rfl, rfl, Kd, Km, R3, BD⟩
            · go_simp
              obtain ⟨gm, hgm⟩ : ∃ G, vb12.heap.size = G := ⟨_, rfl⟩
              have Km := Lib.hid (Blk.new' vb12 38 leaseZ _ hgm rfl)
              have Lm := Lib.hid (show w22.heap.size ≤ gm from by rw [← hgm]; exact BD.out.size)
              have Ndm := Lib.hid (show gd < gm from by rw [← hgm]; exact Kd.out.lt)
              replace Kd := Lib.hid (Kd.out.alloc (.cells leaseZ 38))
              replace BD := Lib.hid (BD.out.alloc BD.out.size (.cells leaseZ 38))
              try rw [hgm]
              generalize hw2 : vb12.alloc (.cells leaseZ 38) = vb17 at Kd Km BD ⊢
              clear hw2 hgm
              refine hK _ _ (Till.low trivial BD.out) (fun _ => ?_)
              clear hK K
              (try simp only [Act.put, List.getElem_toArray, List.getElem_cons_succ, List.getElem_cons_zero, List.setIfInBounds_toArray, List.set_cons_zero, List.set_cons_succ])
              refine Ph.ready (rs := [5]) (by kernel_rfl) (by simp) (All.cons rfl (fun K hK => ?_) (All.nil))
              go_simp
              refine (GR2.out a2 c2 _ (R2.out.mono BD.out) (HLA.out.below (bt B.out BD.out))).mono ?_
              rintro e vb18 ⟨⟨a3, c3, rfl, hr, hf⟩, hb⟩
              have Qd := Lib.hid Kd.out.lt
              have Qm := Lib.hid Km.out.lt
              replace Kd := Lib.hid (Kd.out.below hb Kd.out.lt)
              replace Km := Lib.hid (Km.out.below hb Km.out.lt)
              have R3 := Lib.hid hr
              have F3 := Lib.hid (show ∀ p, a3 = some p → w22.heap.size ≤ p.block from fun p hp => Nat.le_trans BD.out.size (hf p hp))
              have E3d := Lib.hid (show ∀ p, a3 = some p → p.block ≠ gd from fun p hp => by have h1 := hf p hp; have h2 := Qd.out; omega)
              have E3m := Lib.hid (show ∀ p, a3 = some p → p.block ≠ gm from fun p hp => by have h1 := hf p hp; have h2 := Qm.out; omega)
              clear hr hf Qd Qm
              replace BD := Lib.hid (bt BD.out hb)
              clear hb
              go_wp2_with fail
              refine hK _ _ (Till.high (by rfl) BD.out) (fun _ => ?_)
              clear hK K
              refine Ph.takeP (i := 6) (v := .tuple #[.agg #[.int .i64 la, .int .i64 mo, .slice a3 L3.length c3], .agg LC, .int .i64 0]) rfl (fun W => by go_simp) (Till.high (by rfl) BD.out) ?_
              refine Ph.takeP (i := 7) (v := .agg #[.int .i64 la, .int .i64 mo, .slice a3 L3.length c3]) rfl (fun W => by go_simp) (Till.high (by rfl) BD.out) ?_
              refine Ph.takeP (i := 8) (v := .agg LC) rfl (fun W => by go_simp) (Till.high (by rfl) BD.out) ?_
              refine Ph.takeP (i := 9) (v := .int .i64 0) rfl (fun W => by go_simp) (Till.high (by rfl) BD.out) ?_
              (try simp only [Act.put, List.getElem_toArray, List.getElem_cons_succ, List.getElem_cons_zero, List.setIfInBounds_toArray, List.set_cons_zero, List.set_cons_succ])
              refine Ph.ready (rs := [12]) (by kernel_rfl) (by simp) (All.cons rfl (fun K hK => ?_) (All.nil))
              rw [if_pos (by rfl)]
              refine wp_store_row 24 _ _ rfl (gd) 24 #[.int .i64 0, .int .i64 0, .slice none 0 0] #[.int .i64 la, .int .i64 mo, .slice a3 L3.length c3] rfl rfl (Blk.hs Kd.out) (big_grants _ _ _ _ _).info ((big_grants _ _ _ _ _).same (big_grants _ _ _ _ _)) (big_grants _ _ _ _ _).one rfl ?_
              replace Kd := Lib.hid (Kd.out.row_ #[.int .i64 la, .int .i64 mo, .slice a3 L3.length c3])
              replace Km := Lib.hid (Km.out.rowfar (show gm ≠ gd by have := Ndm.out; omega) #[.int .i64 la, .int .i64 mo, .slice a3 L3.length c3])
              replace R3 := Lib.hid (RowsA.rowfar R3.out E3d.out #[.int .i64 la, .int .i64 mo, .slice a3 L3.length c3])
              replace BD := Lib.hid (below_setRow BD.out Ld.out #[.int .i64 la, .int .i64 mo, .slice a3 L3.length c3])
              generalize hw2 : (vb18.setRow (gd) #[.int .i64 la, .int .i64 mo, .slice a3 L3.length c3]) = vb19 at Kd Km R3 BD ⊢
              clear hw2
              refine hK _ _ (Till.high (by rfl) BD.out) (fun _ => ?_)
              clear hK K
              (try simp only [Act.put, List.getElem_toArray, List.getElem_cons_succ, List.getElem_cons_zero, List.setIfInBounds_toArray, List.set_cons_zero, List.set_cons_succ])
              refine Ph.ready (rs := [13]) (by kernel_rfl) (by simp) (All.cons rfl (fun K hK => ?_) (All.nil))
              rw [if_pos (by rfl)]
              refine wp_store_row 38 _ _ rfl (gm) 38 leaseZ LC rfl rfl (Blk.hs Km.out) BNm.out.info (big_leaseZ.same BNm.out) BNm.out.one rfl ?_
              replace Km := Lib.hid (Km.out.row_ LC)
              replace Kd := Lib.hid (Kd.out.rowfar (show gd ≠ gm by have := Ndm.out; omega) LC)
              replace R3 := Lib.hid (RowsA.rowfar R3.out E3m.out LC)
              replace BD := Lib.hid (below_setRow BD.out Lm.out LC)
              generalize hw2 : (vb19.setRow (gm) LC) = vb20 at Kd Km R3 BD ⊢
              clear hw2
              refine hK _ _ (Till.high (by rfl) BD.out) (fun _ => ?_)
              clear hK K
              refine Ph.takeP (i := 14) (v := .int .i64 0) rfl (fun W => by go_simp) (Till.high (by rfl) BD.out) ?_
              (try simp only [Act.put, List.getElem_toArray, List.getElem_cons_succ, List.getElem_cons_zero, List.setIfInBounds_toArray, List.set_cons_zero, List.set_cons_succ])
              refine Ph.done (by kernel_rfl) ?_ _
              go_wp2_with fail
              go_meet
              exact ⟨rfl, gd, gm, a3, c3, rfl, rfl, Kd, Km, R3, BD⟩
          · go_simp
            obtain ⟨gm, hgm⟩ : ∃ G, vb2.heap.size = G := ⟨_, rfl⟩
            have Km := Lib.hid (Blk.new' vb2 38 leaseZ _ hgm rfl)
            have Lm := Lib.hid (show w22.heap.size ≤ gm from by rw [← hgm]; exact BD.out.size)
            replace BD := Lib.hid (BD.out.alloc BD.out.size (.cells leaseZ 38))
            try rw [hgm]
            generalize hw2 : vb2.alloc (.cells leaseZ 38) = vb21 at Km BD ⊢
            clear hw2 hgm
            refine hK _ _ (Till.low trivial BD.out) (fun _ => ?_)
            clear hK K
            (try simp only [Act.put, List.getElem_toArray, List.getElem_cons_succ, List.getElem_cons_zero, List.setIfInBounds_toArray, List.set_cons_zero, List.set_cons_succ])
            refine Ph.ready (rs := [5, 10]) (by kernel_rfl) (by simp) (All.cons rfl (fun K hK => ?_) (All.cons rfl (fun K hK => ?_) (All.nil)))
            · go_simp
              refine (GR2.out a2 c2 _ (R2.out.mono BD.out) (HLA.out.below (bt B.out BD.out))).mono ?_
              rintro e vb22 ⟨⟨a3, c3, rfl, hr, hf⟩, hb⟩
              have Qm := Lib.hid Km.out.lt
              replace Km := Lib.hid (Km.out.below hb Km.out.lt)
              have R3 := Lib.hid hr
              have F3 := Lib.hid (show ∀ p, a3 = some p → w22.heap.size ≤ p.block from fun p hp => Nat.le_trans BD.out.size (hf p hp))
              have E3m := Lib.hid (show ∀ p, a3 = some p → p.block ≠ gm from fun p hp => by have h1 := hf p hp; have h2 := Qm.out; omega)
              clear hr hf Qm
              replace BD := Lib.hid (bt BD.out hb)
              clear hb
              go_wp2_with fail
              refine hK _ _ (Till.high (by rfl) BD.out) (fun _ => ?_)
              clear hK K
              refine Ph.takeP (i := 6) (v := .tuple #[.agg #[.int .i64 la, .int .i64 mo, .slice a3 L3.length c3], .agg LC, .int .i64 0]) rfl (fun W => by go_simp) (Till.high (by rfl) BD.out) ?_
              refine Ph.takeP (i := 7) (v := .agg #[.int .i64 la, .int .i64 mo, .slice a3 L3.length c3]) rfl (fun W => by go_simp) (Till.high (by rfl) BD.out) ?_
              refine Ph.takeP (i := 8) (v := .agg LC) rfl (fun W => by go_simp) (Till.high (by rfl) BD.out) ?_
              refine Ph.takeP (i := 9) (v := .int .i64 0) rfl (fun W => by go_simp) (Till.high (by rfl) BD.out) ?_
              (try simp only [Act.put, List.getElem_toArray, List.getElem_cons_succ, List.getElem_cons_zero, List.setIfInBounds_toArray, List.set_cons_zero, List.set_cons_succ])
              refine Ph.ready (rs := [10]) (by kernel_rfl) (by simp) (All.cons rfl (fun K hK => ?_) (All.nil))
              go_simp
              obtain ⟨gd, hgd⟩ : ∃ G, vb22.heap.size = G := ⟨_, rfl⟩
              have Kd := Lib.hid (Blk.new' vb22 24 #[.int .i64 0, .int .i64 0, .slice none 0 0] _ hgd rfl)
              have Ld := Lib.hid (show w22.heap.size ≤ gd from by rw [← hgd]; exact BD.out.size)
              have Nmd := Lib.hid (show gm < gd from by rw [← hgd]; exact Km.out.lt)
              replace Km := Lib.hid (Km.out.alloc (.cells #[.int .i64 0, .int .i64 0, .slice none 0 0] 24))
              have E3d := Lib.hid (show ∀ p, a3 = some p → p.block ≠ gd from fun p hp => by have h1 := rows_lt R3.out LP.out p hp; omega)
              replace R3 := Lib.hid (R3.out.mono ((Below.refl _ vb22).alloc (Nat.le_refl _) (.cells #[.int .i64 0, .int .i64 0, .slice none 0 0] 24)))
              replace BD := Lib.hid (BD.out.alloc BD.out.size (.cells #[.int .i64 0, .int .i64 0, .slice none 0 0] 24))
              try rw [hgd]
              generalize hw2 : vb22.alloc (.cells #[.int .i64 0, .int .i64 0, .slice none 0 0] 24) = vb23 at Km Kd R3 BD ⊢
              clear hw2 hgd
              refine hK _ _ (Till.high (by rfl) BD.out) (fun _ => ?_)
              clear hK K
              (try simp only [Act.put, List.getElem_toArray, List.getElem_cons_succ, List.getElem_cons_zero, List.setIfInBounds_toArray, List.set_cons_zero, List.set_cons_succ])
              refine Ph.ready (rs := [12]) (by kernel_rfl) (by simp) (All.cons rfl (fun K hK => ?_) (All.nil))
              rw [if_pos (by rfl)]
              refine wp_store_row 24 _ _ rfl (gd) 24 #[.int .i64 0, .int .i64 0, .slice none 0 0] #[.int .i64 la, .int .i64 mo, .slice a3 L3.length c3] rfl rfl (Blk.hs Kd.out) (big_grants _ _ _ _ _).info ((big_grants _ _ _ _ _).same (big_grants _ _ _ _ _)) (big_grants _ _ _ _ _).one rfl ?_
              replace Kd := Lib.hid (Kd.out.row_ #[.int .i64 la, .int .i64 mo, .slice a3 L3.length c3])
              replace Km := Lib.hid (Km.out.rowfar (show gm ≠ gd by have := Nmd.out; omega) #[.int .i64 la, .int .i64 mo, .slice a3 L3.length c3])
              replace R3 := Lib.hid (RowsA.rowfar R3.out E3d.out #[.int .i64 la, .int .i64 mo, .slice a3 L3.length c3])
              replace BD := Lib.hid (below_setRow BD.out Ld.out #[.int .i64 la, .int .i64 mo, .slice a3 L3.length c3])
              generalize hw2 : (vb23.setRow (gd) #[.int .i64 la, .int .i64 mo, .slice a3 L3.length c3]) = vb24 at Km Kd R3 BD ⊢
              clear hw2
              refine hK _ _ (Till.high (by rfl) BD.out) (fun _ => ?_)
              clear hK K
              (try simp only [Act.put, List.getElem_toArray, List.getElem_cons_succ, List.getElem_cons_zero, List.setIfInBounds_toArray, List.set_cons_zero, List.set_cons_succ])
              refine Ph.ready (rs := [13]) (by kernel_rfl) (by simp) (All.cons rfl (fun K hK => ?_) (All.nil))
              rw [if_pos (by rfl)]
              refine wp_store_row 38 _ _ rfl (gm) 38 leaseZ LC rfl rfl (Blk.hs Km.out) BNm.out.info (big_leaseZ.same BNm.out) BNm.out.one rfl ?_
              replace Km := Lib.hid (Km.out.row_ LC)
              replace Kd := Lib.hid (Kd.out.rowfar (show gd ≠ gm by have := Nmd.out; omega) LC)
              replace R3 := Lib.hid (RowsA.rowfar R3.out E3m.out LC)
              replace BD := Lib.hid (below_setRow BD.out Lm.out LC)
              generalize hw2 : (vb24.setRow (gm) LC) = vb25 at Km Kd R3 BD ⊢
              clear hw2
              refine hK _ _ (Till.high (by rfl) BD.out) (fun _ => ?_)
              clear hK K
              refine Ph.takeP (i := 14) (v := .int .i64 0) rfl (fun W => by go_simp) (Till.high (by rfl) BD.out) ?_
              (try simp only [Act.put, List.getElem_toArray, List.getElem_cons_succ, List.getElem_cons_zero, List.setIfInBounds_toArray, List.set_cons_zero, List.set_cons_succ])
              refine Ph.done (by kernel_rfl) ?_ _
              go_wp2_with fail
              go_meet
              exact ⟨rfl, gd, gm, a3, c3, rfl, rfl, Kd, Km, R3, BD⟩
            · go_simp
              obtain ⟨gd, hgd⟩ : ∃ G, vb21.heap.size = G := ⟨_, rfl⟩
              have Kd := Lib.hid (Blk.new' vb21 24 #[.int .i64 0, .int .i64 0, .slice none 0 0] _ hgd rfl)
              have Ld := Lib.hid (show w22.heap.size ≤ gd from by rw [← hgd]; exact BD.out.size)
              have Nmd := Lib.hid (show gm < gd from by rw [← hgd]; exact Km.out.lt)
              replace Km := Lib.hid (Km.out.alloc (.cells #[.int .i64 0, .int .i64 0, .slice none 0 0] 24))
              replace BD := Lib.hid (BD.out.alloc BD.out.size (.cells #[.int .i64 0, .int .i64 0, .slice none 0 0] 24))
              try rw [hgd]
              generalize hw2 : vb21.alloc (.cells #[.int .i64 0, .int .i64 0, .slice none 0 0] 24) = vb26 at Km Kd BD ⊢
              clear hw2 hgd
              refine hK _ _ (Till.low trivial BD.out) (fun _ => ?_)
              clear hK K
              (try simp only [Act.put, List.getElem_toArray, List.getElem_cons_succ, List.getElem_cons_zero, List.setIfInBounds_toArray, List.set_cons_zero, List.set_cons_succ])
              refine Ph.ready (rs := [5]) (by kernel_rfl) (by simp) (All.cons rfl (fun K hK => ?_) (All.nil))
              go_simp
              refine (GR2.out a2 c2 _ (R2.out.mono BD.out) (HLA.out.below (bt B.out BD.out))).mono ?_
              rintro e vb27 ⟨⟨a3, c3, rfl, hr, hf⟩, hb⟩
              have Qm := Lib.hid Km.out.lt
              have Qd := Lib.hid Kd.out.lt
              replace Km := Lib.hid (Km.out.below hb Km.out.lt)
              replace Kd := Lib.hid (Kd.out.below hb Kd.out.lt)
              have R3 := Lib.hid hr
              have F3 := Lib.hid (show ∀ p, a3 = some p → w22.heap.size ≤ p.block from fun p hp => Nat.le_trans BD.out.size (hf p hp))
              have E3m := Lib.hid (show ∀ p, a3 = some p → p.block ≠ gm from fun p hp => by have h1 := hf p hp; have h2 := Qm.out; omega)
              have E3d := Lib.hid (show ∀ p, a3 = some p → p.block ≠ gd from fun p hp => by have h1 := hf p hp; have h2 := Qd.out; omega)
              clear hr hf Qm Qd
              replace BD := Lib.hid (bt BD.out hb)
              clear hb
              go_wp2_with fail
              refine hK _ _ (Till.high (by rfl) BD.out) (fun _ => ?_)
              clear hK K
              refine Ph.takeP (i := 6) (v := .tuple #[.agg #[.int .i64 la, .int .i64 mo, .slice a3 L3.length c3], .agg LC, .int .i64 0]) rfl (fun W => by go_simp) (Till.high (by rfl) BD.out) ?_
              refine Ph.takeP (i := 7) (v := .agg #[.int .i64 la, .int .i64 mo, .slice a3 L3.length c3]) rfl (fun W => by go_simp) (Till.high (by rfl) BD.out) ?_
              refine Ph.takeP (i := 8) (v := .agg LC) rfl (fun W => by go_simp) (Till.high (by rfl) BD.out) ?_
              refine Ph.takeP (i := 9) (v := .int .i64 0) rfl (fun W => by go_simp) (Till.high (by rfl) BD.out) ?_
              (try simp only [Act.put, List.getElem_toArray, List.getElem_cons_succ, List.getElem_cons_zero, List.setIfInBounds_toArray, List.set_cons_zero, List.set_cons_succ])
              refine Ph.ready (rs := [12]) (by kernel_rfl) (by simp) (All.cons rfl (fun K hK => ?_) (All.nil))
              rw [if_pos (by rfl)]
              refine wp_store_row 24 _ _ rfl (gd) 24 #[.int .i64 0, .int .i64 0, .slice none 0 0] #[.int .i64 la, .int .i64 mo, .slice a3 L3.length c3] rfl rfl (Blk.hs Kd.out) (big_grants _ _ _ _ _).info ((big_grants _ _ _ _ _).same (big_grants _ _ _ _ _)) (big_grants _ _ _ _ _).one rfl ?_
              replace Kd := Lib.hid (Kd.out.row_ #[.int .i64 la, .int .i64 mo, .slice a3 L3.length c3])
              replace Km := Lib.hid (Km.out.rowfar (show gm ≠ gd by have := Nmd.out; omega) #[.int .i64 la, .int .i64 mo, .slice a3 L3.length c3])
              replace R3 := Lib.hid (RowsA.rowfar R3.out E3d.out #[.int .i64 la, .int .i64 mo, .slice a3 L3.length c3])
              replace BD := Lib.hid (below_setRow BD.out Ld.out #[.int .i64 la, .int .i64 mo, .slice a3 L3.length c3])
              generalize hw2 : (vb27.setRow (gd) #[.int .i64 la, .int .i64 mo, .slice a3 L3.length c3]) = vb28 at Km Kd R3 BD ⊢
              clear hw2
              refine hK _ _ (Till.high (by rfl) BD.out) (fun _ => ?_)
              clear hK K
              (try simp only [Act.put, List.getElem_toArray, List.getElem_cons_succ, List.getElem_cons_zero, List.setIfInBounds_toArray, List.set_cons_zero, List.set_cons_succ])
              refine Ph.ready (rs := [13]) (by kernel_rfl) (by simp) (All.cons rfl (fun K hK => ?_) (All.nil))
              rw [if_pos (by rfl)]
              refine wp_store_row 38 _ _ rfl (gm) 38 leaseZ LC rfl rfl (Blk.hs Km.out) BNm.out.info (big_leaseZ.same BNm.out) BNm.out.one rfl ?_
              replace Km := Lib.hid (Km.out.row_ LC)
              replace Kd := Lib.hid (Kd.out.rowfar (show gd ≠ gm by have := Nmd.out; omega) LC)
              replace R3 := Lib.hid (RowsA.rowfar R3.out E3m.out LC)
              replace BD := Lib.hid (below_setRow BD.out Lm.out LC)
              generalize hw2 : (vb28.setRow (gm) LC) = vb29 at Km Kd R3 BD ⊢
              clear hw2
              refine hK _ _ (Till.high (by rfl) BD.out) (fun _ => ?_)
              clear hK K
              refine Ph.takeP (i := 14) (v := .int .i64 0) rfl (fun W => by go_simp) (Till.high (by rfl) BD.out) ?_
              (try simp only [Act.put, List.getElem_toArray, List.getElem_cons_succ, List.getElem_cons_zero, List.setIfInBounds_toArray, List.set_cons_zero, List.set_cons_succ])
              refine Ph.done (by kernel_rfl) ?_ _
              go_wp2_with fail
              go_meet
              exact ⟨rfl, gd, gm, a3, c3, rfl, rfl, Kd, Km, R3, BD⟩
        · go_simp
          obtain ⟨gd, hgd⟩ : ∃ G, vb1.heap.size = G := ⟨_, rfl⟩
          have Kd := Lib.hid (Blk.new' vb1 24 #[.int .i64 0, .int .i64 0, .slice none 0 0] _ hgd rfl)
          have Ld := Lib.hid (show w22.heap.size ≤ gd from by rw [← hgd]; exact BD.out.size)
          replace BD := Lib.hid (BD.out.alloc BD.out.size (.cells #[.int .i64 0, .int .i64 0, .slice none 0 0] 24))
          try rw [hgd]
          generalize hw2 : vb1.alloc (.cells #[.int .i64 0, .int .i64 0, .slice none 0 0] 24) = vb30 at Kd BD ⊢
          clear hw2 hgd
          refine hK _ _ (Till.low trivial BD.out) (fun _ => ?_)
          clear hK K
          (try simp only [Act.put, List.getElem_toArray, List.getElem_cons_succ, List.getElem_cons_zero, List.setIfInBounds_toArray, List.set_cons_zero, List.set_cons_succ])
          refine Ph.ready (rs := [1, 11]) (by kernel_rfl) (by simp) (All.cons rfl (fun K hK => ?_) (All.cons rfl (fun K hK => ?_) (All.nil)))
          · go_simp
            refine (sn_key _).mono ?_
            rintro e vb31 ⟨rfl, hb⟩
            replace Kd := Lib.hid (Kd.out.below hb Kd.out.lt)
            replace BD := Lib.hid (bt BD.out hb)
            clear hb
            go_wp2_with fail
            refine hK _ _ (Till.low trivial BD.out) (fun _ => ?_)
            clear hK K
            (try simp only [Act.put, List.getElem_toArray, List.getElem_cons_succ, List.getElem_cons_zero, List.setIfInBounds_toArray, List.set_cons_zero, List.set_cons_succ])
            refine Ph.ready (rs := [5, 11]) (by kernel_rfl) (by simp) (All.cons rfl (fun K hK => ?_) (All.cons rfl (fun K hK => ?_) (All.nil)))
            · go_simp
              refine (GR2.out a2 c2 _ (R2.out.mono BD.out) (HLA.out.below (bt B.out BD.out))).mono ?_
              rintro e vb32 ⟨⟨a3, c3, rfl, hr, hf⟩, hb⟩
              have Qd := Lib.hid Kd.out.lt
              replace Kd := Lib.hid (Kd.out.below hb Kd.out.lt)
              have R3 := Lib.hid hr
              have F3 := Lib.hid (show ∀ p, a3 = some p → w22.heap.size ≤ p.block from fun p hp => Nat.le_trans BD.out.size (hf p hp))
              have E3d := Lib.hid (show ∀ p, a3 = some p → p.block ≠ gd from fun p hp => by have h1 := hf p hp; have h2 := Qd.out; omega)
              clear hr hf Qd
              replace BD := Lib.hid (bt BD.out hb)
              clear hb
              go_wp2_with fail
              refine hK _ _ (Till.high (by rfl) BD.out) (fun _ => ?_)
              clear hK K
              refine Ph.takeP (i := 6) (v := .tuple #[.agg #[.int .i64 la, .int .i64 mo, .slice a3 L3.length c3], .agg LC, .int .i64 0]) rfl (fun W => by go_simp) (Till.high (by rfl) BD.out) ?_
              refine Ph.takeP (i := 7) (v := .agg #[.int .i64 la, .int .i64 mo, .slice a3 L3.length c3]) rfl (fun W => by go_simp) (Till.high (by rfl) BD.out) ?_
              refine Ph.takeP (i := 8) (v := .agg LC) rfl (fun W => by go_simp) (Till.high (by rfl) BD.out) ?_
              refine Ph.takeP (i := 9) (v := .int .i64 0) rfl (fun W => by go_simp) (Till.high (by rfl) BD.out) ?_
              (try simp only [Act.put, List.getElem_toArray, List.getElem_cons_succ, List.getElem_cons_zero, List.setIfInBounds_toArray, List.set_cons_zero, List.set_cons_succ])
              refine Ph.ready (rs := [11]) (by kernel_rfl) (by simp) (All.cons rfl (fun K hK => ?_) (All.nil))
              go_simp
              obtain ⟨gm, hgm⟩ : ∃ G, vb32.heap.size = G := ⟨_, rfl⟩
              have Km := Lib.hid (Blk.new' vb32 38 leaseZ _ hgm rfl)
              have Lm := Lib.hid (show w22.heap.size ≤ gm from by rw [← hgm]; exact BD.out.size)
              have Ndm := Lib.hid (show gd < gm from by rw [← hgm]; exact Kd.out.lt)
              replace Kd := Lib.hid (Kd.out.alloc (.cells leaseZ 38))
              have E3m := Lib.hid (show ∀ p, a3 = some p → p.block ≠ gm from fun p hp => by have h1 := rows_lt R3.out LP.out p hp; omega)
              replace R3 := Lib.hid (R3.out.mono ((Below.refl _ vb32).alloc (Nat.le_refl _) (.cells leaseZ 38)))
              replace BD := Lib.hid (BD.out.alloc BD.out.size (.cells leaseZ 38))
              try rw [hgm]
              generalize hw2 : vb32.alloc (.cells leaseZ 38) = vb33 at Kd Km R3 BD ⊢
              clear hw2 hgm
              refine hK _ _ (Till.high (by rfl) BD.out) (fun _ => ?_)
              clear hK K
              (try simp only [Act.put, List.getElem_toArray, List.getElem_cons_succ, List.getElem_cons_zero, List.setIfInBounds_toArray, List.set_cons_zero, List.set_cons_succ])
              refine Ph.ready (rs := [12]) (by kernel_rfl) (by simp) (All.cons rfl (fun K hK => ?_) (All.nil))
              rw [if_pos (by rfl)]
              refine wp_store_row 24 _ _ rfl (gd) 24 #[.int .i64 0, .int .i64 0, .slice none 0 0] #[.int .i64 la, .int .i64 mo, .slice a3 L3.length c3] rfl rfl (Blk.hs Kd.out) (big_grants _ _ _ _ _).info ((big_grants _ _ _ _ _).same (big_grants _ _ _ _ _)) (big_grants _ _ _ _ _).one rfl ?_
              replace Kd := Lib.hid (Kd.out.row_ #[.int .i64 la, .int .i64 mo, .slice a3 L3.length c3])
              replace Km := Lib.hid (Km.out.rowfar (show gm ≠ gd by have := Ndm.out; omega) #[.int .i64 la, .int .i64 mo, .slice a3 L3.length c3])
              replace R3 := Lib.hid (RowsA.rowfar R3.out E3d.out #[.int .i64 la, .int .i64 mo, .slice a3 L3.length c3])
              replace BD := Lib.hid (below_setRow BD.out Ld.out #[.int .i64 la, .int .i64 mo, .slice a3 L3.length c3])
              generalize hw2 : (vb33.setRow (gd) #[.int .i64 la, .int .i64 mo, .slice a3 L3.length c3]) = vb34 at Kd Km R3 BD ⊢
              clear hw2
              refine hK _ _ (Till.high (by rfl) BD.out) (fun _ => ?_)
              clear hK K
              (try simp only [Act.put, List.getElem_toArray, List.getElem_cons_succ, List.getElem_cons_zero, List.setIfInBounds_toArray, List.set_cons_zero, List.set_cons_succ])
              refine Ph.ready (rs := [13]) (by kernel_rfl) (by simp) (All.cons rfl (fun K hK => ?_) (All.nil))
              rw [if_pos (by rfl)]
              refine wp_store_row 38 _ _ rfl (gm) 38 leaseZ LC rfl rfl (Blk.hs Km.out) BNm.out.info (big_leaseZ.same BNm.out) BNm.out.one rfl ?_
              replace Km := Lib.hid (Km.out.row_ LC)
              replace Kd := Lib.hid (Kd.out.rowfar (show gd ≠ gm by have := Ndm.out; omega) LC)
              replace R3 := Lib.hid (RowsA.rowfar R3.out E3m.out LC)
              replace BD := Lib.hid (below_setRow BD.out Lm.out LC)
              generalize hw2 : (vb34.setRow (gm) LC) = vb35 at Kd Km R3 BD ⊢
              clear hw2
              refine hK _ _ (Till.high (by rfl) BD.out) (fun _ => ?_)
              clear hK K
              refine Ph.takeP (i := 14) (v := .int .i64 0) rfl (fun W => by go_simp) (Till.high (by rfl) BD.out) ?_
              (try simp only [Act.put, List.getElem_toArray, List.getElem_cons_succ, List.getElem_cons_zero, List.setIfInBounds_toArray, List.set_cons_zero, List.set_cons_succ])
              refine Ph.done (by kernel_rfl) ?_ _
              go_wp2_with fail
              go_meet
              exact ⟨rfl, gd, gm, a3, c3, rfl, rfl, Kd, Km, R3, BD⟩
            · go_simp
              obtain ⟨gm, hgm⟩ : ∃ G, vb31.heap.size = G := ⟨_, rfl⟩
              have Km := Lib.hid (Blk.new' vb31 38 leaseZ _ hgm rfl)
              have Lm := Lib.hid (show w22.heap.size ≤ gm from by rw [← hgm]; exact BD.out.size)
              have Ndm := Lib.hid (show gd < gm from by rw [← hgm]; exact Kd.out.lt)
              replace Kd := Lib.hid (Kd.out.alloc (.cells leaseZ 38))
              replace BD := Lib.hid (BD.out.alloc BD.out.size (.cells leaseZ 38))
              try rw [hgm]
              generalize hw2 : vb31.alloc (.cells leaseZ 38) = vb36 at Kd Km BD ⊢
              clear hw2 hgm
              refine hK _ _ (Till.low trivial BD.out) (fun _ => ?_)
              clear hK K
              (try simp only [Act.put, List.getElem_toArray, List.getElem_cons_succ, List.getElem_cons_zero, List.setIfInBounds_toArray, List.set_cons_zero, List.set_cons_succ])
              refine Ph.ready (rs := [5]) (by kernel_rfl) (by simp) (All.cons rfl (fun K hK => ?_) (All.nil))
              go_simp
              refine (GR2.out a2 c2 _ (R2.out.mono BD.out) (HLA.out.below (bt B.out BD.out))).mono ?_
              rintro e vb37 ⟨⟨a3, c3, rfl, hr, hf⟩, hb⟩
              have Qd := Lib.hid Kd.out.lt
              have Qm := Lib.hid Km.out.lt
              replace Kd := Lib.hid (Kd.out.below hb Kd.out.lt)
              replace Km := Lib.hid (Km.out.below hb Km.out.lt)
              have R3 := Lib.hid hr
              have F3 := Lib.hid (show ∀ p, a3 = some p → w22.heap.size ≤ p.block from fun p hp => Nat.le_trans BD.out.size (hf p hp))
              have E3d := Lib.hid (show ∀ p, a3 = some p → p.block ≠ gd from fun p hp => by have h1 := hf p hp; have h2 := Qd.out; omega)
              have E3m := Lib.hid (show ∀ p, a3 = some p → p.block ≠ gm from fun p hp => by have h1 := hf p hp; have h2 := Qm.out; omega)
              clear hr hf Qd Qm
              replace BD := Lib.hid (bt BD.out hb)
              clear hb
              go_wp2_with fail
              refine hK _ _ (Till.high (by rfl) BD.out) (fun _ => ?_)
              clear hK K
              refine Ph.takeP (i := 6) (v := .tuple #[.agg #[.int .i64 la, .int .i64 mo, .slice a3 L3.length c3], .agg LC, .int .i64 0]) rfl (fun W => by go_simp) (Till.high (by rfl) BD.out) ?_
              refine Ph.takeP (i := 7) (v := .agg #[.int .i64 la, .int .i64 mo, .slice a3 L3.length c3]) rfl (fun W => by go_simp) (Till.high (by rfl) BD.out) ?_
              refine Ph.takeP (i := 8) (v := .agg LC) rfl (fun W => by go_simp) (Till.high (by rfl) BD.out) ?_
              refine Ph.takeP (i := 9) (v := .int .i64 0) rfl (fun W => by go_simp) (Till.high (by rfl) BD.out) ?_
              (try simp only [Act.put, List.getElem_toArray, List.getElem_cons_succ, List.getElem_cons_zero, List.setIfInBounds_toArray, List.set_cons_zero, List.set_cons_succ])
              refine Ph.ready (rs := [12]) (by kernel_rfl) (by simp) (All.cons rfl (fun K hK => ?_) (All.nil))
              rw [if_pos (by rfl)]
              refine wp_store_row 24 _ _ rfl (gd) 24 #[.int .i64 0, .int .i64 0, .slice none 0 0] #[.int .i64 la, .int .i64 mo, .slice a3 L3.length c3] rfl rfl (Blk.hs Kd.out) (big_grants _ _ _ _ _).info ((big_grants _ _ _ _ _).same (big_grants _ _ _ _ _)) (big_grants _ _ _ _ _).one rfl ?_
              replace Kd := Lib.hid (Kd.out.row_ #[.int .i64 la, .int .i64 mo, .slice a3 L3.length c3])
              replace Km := Lib.hid (Km.out.rowfar (show gm ≠ gd by have := Ndm.out; omega) #[.int .i64 la, .int .i64 mo, .slice a3 L3.length c3])
              replace R3 := Lib.hid (RowsA.rowfar R3.out E3d.out #[.int .i64 la, .int .i64 mo, .slice a3 L3.length c3])
              replace BD := Lib.hid (below_setRow BD.out Ld.out #[.int .i64 la, .int .i64 mo, .slice a3 L3.length c3])
              generalize hw2 : (vb37.setRow (gd) #[.int .i64 la, .int .i64 mo, .slice a3 L3.length c3]) = vb38 at Kd Km R3 BD ⊢
              clear hw2
              refine hK _ _ (Till.high (by rfl) BD.out) (fun _ => ?_)
              clear hK K
              (try simp only [Act.put, List.getElem_toArray, List.getElem_cons_succ, List.getElem_cons_zero, List.setIfInBounds_toArray, List.set_cons_zero, List.set_cons_succ])
              refine Ph.ready (rs := [13]) (by kernel_rfl) (by simp) (All.cons rfl (fun K hK => ?_) (All.nil))
              rw [if_pos (by rfl)]
              refine wp_store_row 38 _ _ rfl (gm) 38 leaseZ LC rfl rfl (Blk.hs Km.out) BNm.out.info (big_leaseZ.same BNm.out) BNm.out.one rfl ?_
              replace Km := Lib.hid (Km.out.row_ LC)
              replace Kd := Lib.hid (Kd.out.rowfar (show gd ≠ gm by have := Ndm.out; omega) LC)
              replace R3 := Lib.hid (RowsA.rowfar R3.out E3m.out LC)
              replace BD := Lib.hid (below_setRow BD.out Lm.out LC)
              generalize hw2 : (vb38.setRow (gm) LC) = vb39 at Kd Km R3 BD ⊢
              clear hw2
              refine hK _ _ (Till.high (by rfl) BD.out) (fun _ => ?_)
              clear hK K
              refine Ph.takeP (i := 14) (v := .int .i64 0) rfl (fun W => by go_simp) (Till.high (by rfl) BD.out) ?_
              (try simp only [Act.put, List.getElem_toArray, List.getElem_cons_succ, List.getElem_cons_zero, List.setIfInBounds_toArray, List.set_cons_zero, List.set_cons_succ])
              refine Ph.done (by kernel_rfl) ?_ _
              go_wp2_with fail
              go_meet
              exact ⟨rfl, gd, gm, a3, c3, rfl, rfl, Kd, Km, R3, BD⟩
          · go_simp
            obtain ⟨gm, hgm⟩ : ∃ G, vb30.heap.size = G := ⟨_, rfl⟩
            have Km := Lib.hid (Blk.new' vb30 38 leaseZ _ hgm rfl)
            have Lm := Lib.hid (show w22.heap.size ≤ gm from by rw [← hgm]; exact BD.out.size)
            have Ndm := Lib.hid (show gd < gm from by rw [← hgm]; exact Kd.out.lt)
            replace Kd := Lib.hid (Kd.out.alloc (.cells leaseZ 38))
            replace BD := Lib.hid (BD.out.alloc BD.out.size (.cells leaseZ 38))
            try rw [hgm]
            generalize hw2 : vb30.alloc (.cells leaseZ 38) = vb40 at Kd Km BD ⊢
            clear hw2 hgm
            refine hK _ _ (Till.low trivial BD.out) (fun _ => ?_)
            clear hK K
            (try simp only [Act.put, List.getElem_toArray, List.getElem_cons_succ, List.getElem_cons_zero, List.setIfInBounds_toArray, List.set_cons_zero, List.set_cons_succ])
            refine Ph.ready (rs := [1]) (by kernel_rfl) (by simp) (All.cons rfl (fun K hK => ?_) (All.nil))
            go_simp
            refine (sn_key _).mono ?_
            rintro e vb41 ⟨rfl, hb⟩
            replace Kd := Lib.hid (Kd.out.below hb Kd.out.lt)
            replace Km := Lib.hid (Km.out.below hb Km.out.lt)
            replace BD := Lib.hid (bt BD.out hb)
            clear hb
            go_wp2_with fail
            refine hK _ _ (Till.low trivial BD.out) (fun _ => ?_)
            clear hK K
            (try simp only [Act.put, List.getElem_toArray, List.getElem_cons_succ, List.getElem_cons_zero, List.setIfInBounds_toArray, List.set_cons_zero, List.set_cons_succ])
            refine Ph.ready (rs := [5]) (by kernel_rfl) (by simp) (All.cons rfl (fun K hK => ?_) (All.nil))
            go_simp
            refine (GR2.out a2 c2 _ (R2.out.mono BD.out) (HLA.out.below (bt B.out BD.out))).mono ?_
            rintro e vb42 ⟨⟨a3, c3, rfl, hr, hf⟩, hb⟩
            have Qd := Lib.hid Kd.out.lt
            have Qm := Lib.hid Km.out.lt
            replace Kd := Lib.hid (Kd.out.below hb Kd.out.lt)
            replace Km := Lib.hid (Km.out.below hb Km.out.lt)
            have R3 := Lib.hid hr
            have F3 := Lib.hid (show ∀ p, a3 = some p → w22.heap.size ≤ p.block from fun p hp => Nat.le_trans BD.out.size (hf p hp))
            have E3d := Lib.hid (show ∀ p, a3 = some p → p.block ≠ gd from fun p hp => by have h1 := hf p hp; have h2 := Qd.out; omega)
            have E3m := Lib.hid (show ∀ p, a3 = some p → p.block ≠ gm from fun p hp => by have h1 := hf p hp; have h2 := Qm.out; omega)
            clear hr hf Qd Qm
            replace BD := Lib.hid (bt BD.out hb)
            clear hb
            go_wp2_with fail
            refine hK _ _ (Till.high (by rfl) BD.out) (fun _ => ?_)
            clear hK K
            refine Ph.takeP (i := 6) (v := .tuple #[.agg #[.int .i64 la, .int .i64 mo, .slice a3 L3.length c3], .agg LC, .int .i64 0]) rfl (fun W => by go_simp) (Till.high (by rfl) BD.out) ?_
            refine Ph.takeP (i := 7) (v := .agg #[.int .i64 la, .int .i64 mo, .slice a3 L3.length c3]) rfl (fun W => by go_simp) (Till.high (by rfl) BD.out) ?_
            refine Ph.takeP (i := 8) (v := .agg LC) rfl (fun W => by go_simp) (Till.high (by rfl) BD.out) ?_
            refine Ph.takeP (i := 9) (v := .int .i64 0) rfl (fun W => by go_simp) (Till.high (by rfl) BD.out) ?_
            (try simp only [Act.put, List.getElem_toArray, List.getElem_cons_succ, List.getElem_cons_zero, List.setIfInBounds_toArray, List.set_cons_zero, List.set_cons_succ])
            refine Ph.ready (rs := [12]) (by kernel_rfl) (by simp) (All.cons rfl (fun K hK => ?_) (All.nil))
            rw [if_pos (by rfl)]
            refine wp_store_row 24 _ _ rfl (gd) 24 #[.int .i64 0, .int .i64 0, .slice none 0 0] #[.int .i64 la, .int .i64 mo, .slice a3 L3.length c3] rfl rfl (Blk.hs Kd.out) (big_grants _ _ _ _ _).info ((big_grants _ _ _ _ _).same (big_grants _ _ _ _ _)) (big_grants _ _ _ _ _).one rfl ?_
            replace Kd := Lib.hid (Kd.out.row_ #[.int .i64 la, .int .i64 mo, .slice a3 L3.length c3])
            replace Km := Lib.hid (Km.out.rowfar (show gm ≠ gd by have := Ndm.out; omega) #[.int .i64 la, .int .i64 mo, .slice a3 L3.length c3])
            replace R3 := Lib.hid (RowsA.rowfar R3.out E3d.out #[.int .i64 la, .int .i64 mo, .slice a3 L3.length c3])
            replace BD := Lib.hid (below_setRow BD.out Ld.out #[.int .i64 la, .int .i64 mo, .slice a3 L3.length c3])
            generalize hw2 : (vb42.setRow (gd) #[.int .i64 la, .int .i64 mo, .slice a3 L3.length c3]) = vb43 at Kd Km R3 BD ⊢
            clear hw2
            refine hK _ _ (Till.high (by rfl) BD.out) (fun _ => ?_)
            clear hK K
            (try simp only [Act.put, List.getElem_toArray, List.getElem_cons_succ, List.getElem_cons_zero, List.setIfInBounds_toArray, List.set_cons_zero, List.set_cons_succ])
            refine Ph.ready (rs := [13]) (by kernel_rfl) (by simp) (All.cons rfl (fun K hK => ?_) (All.nil))
            rw [if_pos (by rfl)]
            refine wp_store_row 38 _ _ rfl (gm) 38 leaseZ LC rfl rfl (Blk.hs Km.out) BNm.out.info (big_leaseZ.same BNm.out) BNm.out.one rfl ?_
            replace Km := Lib.hid (Km.out.row_ LC)
            replace Kd := Lib.hid (Kd.out.rowfar (show gd ≠ gm by have := Ndm.out; omega) LC)
            replace R3 := Lib.hid (RowsA.rowfar R3.out E3m.out LC)
            replace BD := Lib.hid (below_setRow BD.out Lm.out LC)
            generalize hw2 : (vb43.setRow (gm) LC) = vb44 at Kd Km R3 BD ⊢
            clear hw2
            refine hK _ _ (Till.high (by rfl) BD.out) (fun _ => ?_)
            clear hK K
            refine Ph.takeP (i := 14) (v := .int .i64 0) rfl (fun W => by go_simp) (Till.high (by rfl) BD.out) ?_
            (try simp only [Act.put, List.getElem_toArray, List.getElem_cons_succ, List.getElem_cons_zero, List.setIfInBounds_toArray, List.set_cons_zero, List.set_cons_succ])
            refine Ph.done (by kernel_rfl) ?_ _
            go_wp2_with fail
            go_meet
            exact ⟨rfl, gd, gm, a3, c3, rfl, rfl, Kd, Km, R3, BD⟩
        · go_simp
          obtain ⟨gm, hgm⟩ : ∃ G, vb1.heap.size = G := ⟨_, rfl⟩
          have Km := Lib.hid (Blk.new' vb1 38 leaseZ _ hgm rfl)
          have Lm := Lib.hid (show w22.heap.size ≤ gm from by rw [← hgm]; exact BD.out.size)
          replace BD := Lib.hid (BD.out.alloc BD.out.size (.cells leaseZ 38))
          try rw [hgm]
          generalize hw2 : vb1.alloc (.cells leaseZ 38) = vb45 at Km BD ⊢
          clear hw2 hgm
          refine hK _ _ (Till.low trivial BD.out) (fun _ => ?_)
          clear hK K
          (try simp only [Act.put, List.getElem_toArray, List.getElem_cons_succ, List.getElem_cons_zero, List.setIfInBounds_toArray, List.set_cons_zero, List.set_cons_succ])
          refine Ph.ready (rs := [1, 10]) (by kernel_rfl) (by simp) (All.cons rfl (fun K hK => ?_) (All.cons rfl (fun K hK => ?_) (All.nil)))
          · go_simp
            refine (sn_key _).mono ?_
            rintro e vb46 ⟨rfl, hb⟩
            replace Km := Lib.hid (Km.out.below hb Km.out.lt)
            replace BD := Lib.hid (bt BD.out hb)
            clear hb
            go_wp2_with fail
            refine hK _ _ (Till.low trivial BD.out) (fun _ => ?_)
            clear hK K
            (try simp only [Act.put, List.getElem_toArray, List.getElem_cons_succ, List.getElem_cons_zero, List.setIfInBounds_toArray, List.set_cons_zero, List.set_cons_succ])
            refine Ph.ready (rs := [5, 10]) (by kernel_rfl) (by simp) (All.cons rfl (fun K hK => ?_) (All.cons rfl (fun K hK => ?_) (All.nil)))
            · go_simp
              refine (GR2.out a2 c2 _ (R2.out.mono BD.out) (HLA.out.below (bt B.out BD.out))).mono ?_
              rintro e vb47 ⟨⟨a3, c3, rfl, hr, hf⟩, hb⟩
              have Qm := Lib.hid Km.out.lt
              replace Km := Lib.hid (Km.out.below hb Km.out.lt)
              have R3 := Lib.hid hr
              have F3 := Lib.hid (show ∀ p, a3 = some p → w22.heap.size ≤ p.block from fun p hp => Nat.le_trans BD.out.size (hf p hp))
              have E3m := Lib.hid (show ∀ p, a3 = some p → p.block ≠ gm from fun p hp => by have h1 := hf p hp; have h2 := Qm.out; omega)
              clear hr hf Qm
              replace BD := Lib.hid (bt BD.out hb)
              clear hb
              go_wp2_with fail
              refine hK _ _ (Till.high (by rfl) BD.out) (fun _ => ?_)
              clear hK K
              refine Ph.takeP (i := 6) (v := .tuple #[.agg #[.int .i64 la, .int .i64 mo, .slice a3 L3.length c3], .agg LC, .int .i64 0]) rfl (fun W => by go_simp) (Till.high (by rfl) BD.out) ?_
              refine Ph.takeP (i := 7) (v := .agg #[.int .i64 la, .int .i64 mo, .slice a3 L3.length c3]) rfl (fun W => by go_simp) (Till.high (by rfl) BD.out) ?_
              refine Ph.takeP (i := 8) (v := .agg LC) rfl (fun W => by go_simp) (Till.high (by rfl) BD.out) ?_
              refine Ph.takeP (i := 9) (v := .int .i64 0) rfl (fun W => by go_simp) (Till.high (by rfl) BD.out) ?_
              (try simp only [Act.put, List.getElem_toArray, List.getElem_cons_succ, List.getElem_cons_zero, List.setIfInBounds_toArray, List.set_cons_zero, List.set_cons_succ])
              refine Ph.ready (rs := [10]) (by kernel_rfl) (by simp) (All.cons rfl (fun K hK => ?_) (All.nil))
              go_simp
              obtain ⟨gd, hgd⟩ : ∃ G, vb47.heap.size = G := ⟨_, rfl⟩
              have Kd := Lib.hid (Blk.new' vb47 24 #[.int .i64 0, .int .i64 0, .slice none 0 0] _ hgd rfl)
              have Ld := Lib.hid (show w22.heap.size ≤ gd from by rw [← hgd]; exact BD.out.size)
              have Nmd := Lib.hid (show gm < gd from by rw [← hgd]; exact Km.out.lt)
              replace Km := Lib.hid (Km.out.alloc (.cells #[.int .i64 0, .int .i64 0, .slice none 0 0] 24))
              have E3d := Lib.hid (show ∀ p, a3 = some p → p.block ≠ gd from fun p hp => by have h1 := rows_lt R3.out LP.out p hp; omega)
              replace R3 := Lib.hid (R3.out.mono ((Below.refl _ vb47).alloc (Nat.le_refl _) (.cells #[.int .i64 0, .int .i64 0, .slice none 0 0] 24)))
              replace BD := Lib.hid (BD.out.alloc BD.out.size (.cells #[.int .i64 0, .int .i64 0, .slice none 0 0] 24))
              try rw [hgd]
              generalize hw2 : vb47.alloc (.cells #[.int .i64 0, .int .i64 0, .slice none 0 0] 24) = vb48 at Km Kd R3 BD ⊢
              clear hw2 hgd
              refine hK _ _ (Till.high (by rfl) BD.out) (fun _ => ?_)
              clear hK K
              (try simp only [Act.put, List.getElem_toArray, List.getElem_cons_succ, List.getElem_cons_zero, List.setIfInBounds_toArray, List.set_cons_zero, List.set_cons_succ])
              refine Ph.ready (rs := [12]) (by kernel_rfl) (by simp) (All.cons rfl (fun K hK => ?_) (All.nil))
              rw [if_pos (by rfl)]
              refine wp_store_row 24 _ _ rfl (gd) 24 #[.int .i64 0, .int .i64 0, .slice none 0 0] #[.int .i64 la, .int .i64 mo, .slice a3 L3.length c3] rfl rfl (Blk.hs Kd.out) (big_grants _ _ _ _ _).info ((big_grants _ _ _ _ _).same (big_grants _ _ _ _ _)) (big_grants _ _ _ _ _).one rfl ?_
              replace Kd := Lib.hid (Kd.out.row_ #[.int .i64 la, .int .i64 mo, .slice a3 L3.length c3])
              replace Km := Lib.hid (Km.out.rowfar (show gm ≠ gd by have := Nmd.out; omega) #[.int .i64 la, .int .i64 mo, .slice a3 L3.length c3])
              replace R3 := Lib.hid (RowsA.rowfar R3.out E3d.out #[.int .i64 la, .int .i64 mo, .slice a3 L3.length c3])
              replace BD := Lib.hid (below_setRow BD.out Ld.out #[.int .i64 la, .int .i64 mo, .slice a3 L3.length c3])
              generalize hw2 : (vb48.setRow (gd) #[.int .i64 la, .int .i64 mo, .slice a3 L3.length c3]) = vb49 at Km Kd R3 BD ⊢
              clear hw2
              refine hK _ _ (Till.high (by rfl) BD.out) (fun _ => ?_)
              clear hK K
              (try simp only [Act.put, List.getElem_toArray, List.getElem_cons_succ, List.getElem_cons_zero, List.setIfInBounds_toArray, List.set_cons_zero, List.set_cons_succ])
              refine Ph.ready (rs := [13]) (by kernel_rfl) (by simp) (All.cons rfl (fun K hK => ?_) (All.nil))
              rw [if_pos (by rfl)]
              refine wp_store_row 38 _ _ rfl (gm) 38 leaseZ LC rfl rfl (Blk.hs Km.out) BNm.out.info (big_leaseZ.same BNm.out) BNm.out.one rfl ?_
              replace Km := Lib.hid (Km.out.row_ LC)
              replace Kd := Lib.hid (Kd.out.rowfar (show gd ≠ gm by have := Nmd.out; omega) LC)
              replace R3 := Lib.hid (RowsA.rowfar R3.out E3m.out LC)
              replace BD := Lib.hid (below_setRow BD.out Lm.out LC)
              generalize hw2 : (vb49.setRow (gm) LC) = vb50 at Km Kd R3 BD ⊢
              clear hw2
              refine hK _ _ (Till.high (by rfl) BD.out) (fun _ => ?_)
              clear hK K
              refine Ph.takeP (i := 14) (v := .int .i64 0) rfl (fun W => by go_simp) (Till.high (by rfl) BD.out) ?_
              (try simp only [Act.put, List.getElem_toArray, List.getElem_cons_succ, List.getElem_cons_zero, List.setIfInBounds_toArray, List.set_cons_zero, List.set_cons_succ])
              refine Ph.done (by kernel_rfl) ?_ _
              go_wp2_with fail
              go_meet
              exact ⟨rfl, gd, gm, a3, c3, rfl, rfl, Kd, Km, R3, BD⟩
            · go_simp
              obtain ⟨gd, hgd⟩ : ∃ G, vb46.heap.size = G := ⟨_, rfl⟩
              have Kd := Lib.hid (Blk.new' vb46 24 #[.int .i64 0, .int .i64 0, .slice none 0 0] _ hgd rfl)
              have Ld := Lib.hid (show w22.heap.size ≤ gd from by rw [← hgd]; exact BD.out.size)
              have Nmd := Lib.hid (show gm < gd from by rw [← hgd]; exact Km.out.lt)
              replace Km := Lib.hid (Km.out.alloc (.cells #[.int .i64 0, .int .i64 0, .slice none 0 0] 24))
              replace BD := Lib.hid (BD.out.alloc BD.out.size (.cells #[.int .i64 0, .int .i64 0, .slice none 0 0] 24))
              try rw [hgd]
              generalize hw2 : vb46.alloc (.cells #[.int .i64 0, .int .i64 0, .slice none 0 0] 24) = vb51 at Km Kd BD ⊢
              clear hw2 hgd
              refine hK _ _ (Till.low trivial BD.out) (fun _ => ?_)
              clear hK K
              (try simp only [Act.put, List.getElem_toArray, List.getElem_cons_succ, List.getElem_cons_zero, List.setIfInBounds_toArray, List.set_cons_zero, List.set_cons_succ])
              refine Ph.ready (rs := [5]) (by kernel_rfl) (by simp) (All.cons rfl (fun K hK => ?_) (All.nil))
              go_simp
              refine (GR2.out a2 c2 _ (R2.out.mono BD.out) (HLA.out.below (bt B.out BD.out))).mono ?_
              rintro e vb52 ⟨⟨a3, c3, rfl, hr, hf⟩, hb⟩
              have Qm := Lib.hid Km.out.lt
              have Qd := Lib.hid Kd.out.lt
              replace Km := Lib.hid (Km.out.below hb Km.out.lt)
              replace Kd := Lib.hid (Kd.out.below hb Kd.out.lt)
              have R3 := Lib.hid hr
              have F3 := Lib.hid (show ∀ p, a3 = some p → w22.heap.size ≤ p.block from fun p hp => Nat.le_trans BD.out.size (hf p hp))
              have E3m := Lib.hid (show ∀ p, a3 = some p → p.block ≠ gm from fun p hp => by have h1 := hf p hp; have h2 := Qm.out; omega)
              have E3d := Lib.hid (show ∀ p, a3 = some p → p.block ≠ gd from fun p hp => by have h1 := hf p hp; have h2 := Qd.out; omega)
              clear hr hf Qm Qd
              replace BD := Lib.hid (bt BD.out hb)
              clear hb
              go_wp2_with fail
              refine hK _ _ (Till.high (by rfl) BD.out) (fun _ => ?_)
              clear hK K
              refine Ph.takeP (i := 6) (v := .tuple #[.agg #[.int .i64 la, .int .i64 mo, .slice a3 L3.length c3], .agg LC, .int .i64 0]) rfl (fun W => by go_simp) (Till.high (by rfl) BD.out) ?_
              refine Ph.takeP (i := 7) (v := .agg #[.int .i64 la, .int .i64 mo, .slice a3 L3.length c3]) rfl (fun W => by go_simp) (Till.high (by rfl) BD.out) ?_
              refine Ph.takeP (i := 8) (v := .agg LC) rfl (fun W => by go_simp) (Till.high (by rfl) BD.out) ?_
              refine Ph.takeP (i := 9) (v := .int .i64 0) rfl (fun W => by go_simp) (Till.high (by rfl) BD.out) ?_
              (try simp only [Act.put, List.getElem_toArray, List.getElem_cons_succ, List.getElem_cons_zero, List.setIfInBounds_toArray, List.set_cons_zero, List.set_cons_succ])
              refine Ph.ready (rs := [12]) (by kernel_rfl) (by simp) (All.cons rfl (fun K hK => ?_) (All.nil))
              rw [if_pos (by rfl)]
              refine wp_store_row 24 _ _ rfl (gd) 24 #[.int .i64 0, .int .i64 0, .slice none 0 0] #[.int .i64 la, .int .i64 mo, .slice a3 L3.length c3] rfl rfl (Blk.hs Kd.out) (big_grants _ _ _ _ _).info ((big_grants _ _ _ _ _).same (big_grants _ _ _ _ _)) (big_grants _ _ _ _ _).one rfl ?_
              replace Kd := Lib.hid (Kd.out.row_ #[.int .i64 la, .int .i64 mo, .slice a3 L3.length c3])
              replace Km := Lib.hid (Km.out.rowfar (show gm ≠ gd by have := Nmd.out; omega) #[.int .i64 la, .int .i64 mo, .slice a3 L3.length c3])
              replace R3 := Lib.hid (RowsA.rowfar R3.out E3d.out #[.int .i64 la, .int .i64 mo, .slice a3 L3.length c3])
              replace BD := Lib.hid (below_setRow BD.out Ld.out #[.int .i64 la, .int .i64 mo, .slice a3 L3.length c3])
              generalize hw2 : (vb52.setRow (gd) #[.int .i64 la, .int .i64 mo, .slice a3 L3.length c3]) = vb53 at Km Kd R3 BD ⊢
              clear hw2
              refine hK _ _ (Till.high (by rfl) BD.out) (fun _ => ?_)
              clear hK K
              (try simp only [Act.put, List.getElem_toArray, List.getElem_cons_succ, List.getElem_cons_zero, List.setIfInBounds_toArray, List.set_cons_zero, List.set_cons_succ])
              refine Ph.ready (rs := [13]) (by kernel_rfl) (by simp) (All.cons rfl (fun K hK => ?_) (All.nil))
              rw [if_pos (by rfl)]
              refine wp_store_row 38 _ _ rfl (gm) 38 leaseZ LC rfl rfl (Blk.hs Km.out) BNm.out.info (big_leaseZ.same BNm.out) BNm.out.one rfl ?_
              replace Km := Lib.hid (Km.out.row_ LC)
              replace Kd := Lib.hid (Kd.out.rowfar (show gd ≠ gm by have := Nmd.out; omega) LC)
              replace R3 := Lib.hid (RowsA.rowfar R3.out E3m.out LC)
              replace BD := Lib.hid (below_setRow BD.out Lm.out LC)
              generalize hw2 : (vb53.setRow (gm) LC) = vb54 at Km Kd R3 BD ⊢
              clear hw2
              refine hK _ _ (Till.high (by rfl) BD.out) (fun _ => ?_)
              clear hK K
              refine Ph.takeP (i := 14) (v := .int .i64 0) rfl (fun W => by go_simp) (Till.high (by rfl) BD.out) ?_
              (try simp only [Act.put, List.getElem_toArray, List.getElem_cons_succ, List.getElem_cons_zero, List.setIfInBounds_toArray, List.set_cons_zero, List.set_cons_succ])
              refine Ph.done (by kernel_rfl) ?_ _
              go_wp2_with fail
              go_meet
              exact ⟨rfl, gd, gm, a3, c3, rfl, rfl, Kd, Km, R3, BD⟩
          · go_simp
            obtain ⟨gd, hgd⟩ : ∃ G, vb45.heap.size = G := ⟨_, rfl⟩
            have Kd := Lib.hid (Blk.new' vb45 24 #[.int .i64 0, .int .i64 0, .slice none 0 0] _ hgd rfl)
            have Ld := Lib.hid (show w22.heap.size ≤ gd from by rw [← hgd]; exact BD.out.size)
            have Nmd := Lib.hid (show gm < gd from by rw [← hgd]; exact Km.out.lt)
            replace Km := Lib.hid (Km.out.alloc (.cells #[.int .i64 0, .int .i64 0, .slice none 0 0] 24))
            replace BD := Lib.hid (BD.out.alloc BD.out.size (.cells #[.int .i64 0, .int .i64 0, .slice none 0 0] 24))
            try rw [hgd]
            generalize hw2 : vb45.alloc (.cells #[.int .i64 0, .int .i64 0, .slice none 0 0] 24) = vb55 at Km Kd BD ⊢
            clear hw2 hgd
            refine hK _ _ (Till.low trivial BD.out) (fun _ => ?_)
            clear hK K
            (try simp only [Act.put, List.getElem_toArray, List.getElem_cons_succ, List.getElem_cons_zero, List.setIfInBounds_toArray, List.set_cons_zero, List.set_cons_succ])
            refine Ph.ready (rs := [1]) (by kernel_rfl) (by simp) (All.cons rfl (fun K hK => ?_) (All.nil))
            go_simp
            refine (sn_key _).mono ?_
            rintro e vb56 ⟨rfl, hb⟩
            replace Km := Lib.hid (Km.out.below hb Km.out.lt)
            replace Kd := Lib.hid (Kd.out.below hb Kd.out.lt)
            replace BD := Lib.hid (bt BD.out hb)
            clear hb
            go_wp2_with fail
            refine hK _ _ (Till.low trivial BD.out) (fun _ => ?_)
            clear hK K
            (try simp only [Act.put, List.getElem_toArray, List.getElem_cons_succ, List.getElem_cons_zero, List.setIfInBounds_toArray, List.set_cons_zero, List.set_cons_succ])
            refine Ph.ready (rs := [5]) (by kernel_rfl) (by simp) (All.cons rfl (fun K hK => ?_) (All.nil))
            go_simp
            refine (GR2.out a2 c2 _ (R2.out.mono BD.out) (HLA.out.below (bt B.out BD.out))).mono ?_
            rintro e vb57 ⟨⟨a3, c3, rfl, hr, hf⟩, hb⟩
            have Qm := Lib.hid Km.out.lt
            have Qd := Lib.hid Kd.out.lt
            replace Km := Lib.hid (Km.out.below hb Km.out.lt)
            replace Kd := Lib.hid (Kd.out.below hb Kd.out.lt)
            have R3 := Lib.hid hr
            have F3 := Lib.hid (show ∀ p, a3 = some p → w22.heap.size ≤ p.block from fun p hp => Nat.le_trans BD.out.size (hf p hp))
            have E3m := Lib.hid (show ∀ p, a3 = some p → p.block ≠ gm from fun p hp => by have h1 := hf p hp; have h2 := Qm.out; omega)
            have E3d := Lib.hid (show ∀ p, a3 = some p → p.block ≠ gd from fun p hp => by have h1 := hf p hp; have h2 := Qd.out; omega)
            clear hr hf Qm Qd
            replace BD := Lib.hid (bt BD.out hb)
            clear hb
            go_wp2_with fail
            refine hK _ _ (Till.high (by rfl) BD.out) (fun _ => ?_)
            clear hK K
            refine Ph.takeP (i := 6) (v := .tuple #[.agg #[.int .i64 la, .int .i64 mo, .slice a3 L3.length c3], .agg LC, .int .i64 0]) rfl (fun W => by go_simp) (Till.high (by rfl) BD.out) ?_
            refine Ph.takeP (i := 7) (v := .agg #[.int .i64 la, .int .i64 mo, .slice a3 L3.length c3]) rfl (fun W => by go_simp) (Till.high (by rfl) BD.out) ?_
            refine Ph.takeP (i := 8) (v := .agg LC) rfl (fun W => by go_simp) (Till.high (by rfl) BD.out) ?_
            refine Ph.takeP (i := 9) (v := .int .i64 0) rfl (fun W => by go_simp) (Till.high (by rfl) BD.out) ?_
            (try simp only [Act.put, List.getElem_toArray, List.getElem_cons_succ, List.getElem_cons_zero, List.setIfInBounds_toArray, List.set_cons_zero, List.set_cons_succ])
            refine Ph.ready (rs := [12]) (by kernel_rfl) (by simp) (All.cons rfl (fun K hK => ?_) (All.nil))
            rw [if_pos (by rfl)]
            refine wp_store_row 24 _ _ rfl (gd) 24 #[.int .i64 0, .int .i64 0, .slice none 0 0] #[.int .i64 la, .int .i64 mo, .slice a3 L3.length c3] rfl rfl (Blk.hs Kd.out) (big_grants _ _ _ _ _).info ((big_grants _ _ _ _ _).same (big_grants _ _ _ _ _)) (big_grants _ _ _ _ _).one rfl ?_
            replace Kd := Lib.hid (Kd.out.row_ #[.int .i64 la, .int .i64 mo, .slice a3 L3.length c3])
            replace Km := Lib.hid (Km.out.rowfar (show gm ≠ gd by have := Nmd.out; omega) #[.int .i64 la, .int .i64 mo, .slice a3 L3.length c3])
            replace R3 := Lib.hid (RowsA.rowfar R3.out E3d.out #[.int .i64 la, .int .i64 mo, .slice a3 L3.length c3])
            replace BD := Lib.hid (below_setRow BD.out Ld.out #[.int .i64 la, .int .i64 mo, .slice a3 L3.length c3])
            generalize hw2 : (vb57.setRow (gd) #[.int .i64 la, .int .i64 mo, .slice a3 L3.length c3]) = vb58 at Km Kd R3 BD ⊢
            clear hw2
            refine hK _ _ (Till.high (by rfl) BD.out) (fun _ => ?_)
            clear hK K
            (try simp only [Act.put, List.getElem_toArray, List.getElem_cons_succ, List.getElem_cons_zero, List.setIfInBounds_toArray, List.set_cons_zero, List.set_cons_succ])
            refine Ph.ready (rs := [13]) (by kernel_rfl) (by simp) (All.cons rfl (fun K hK => ?_) (All.nil))
            rw [if_pos (by rfl)]
            refine wp_store_row 38 _ _ rfl (gm) 38 leaseZ LC rfl rfl (Blk.hs Km.out) BNm.out.info (big_leaseZ.same BNm.out) BNm.out.one rfl ?_
            replace Km := Lib.hid (Km.out.row_ LC)
            replace Kd := Lib.hid (Kd.out.rowfar (show gd ≠ gm by have := Nmd.out; omega) LC)
            replace R3 := Lib.hid (RowsA.rowfar R3.out E3m.out LC)
            replace BD := Lib.hid (below_setRow BD.out Lm.out LC)
            generalize hw2 : (vb58.setRow (gm) LC) = vb59 at Km Kd R3 BD ⊢
            clear hw2
            refine hK _ _ (Till.high (by rfl) BD.out) (fun _ => ?_)
            clear hK K
            refine Ph.takeP (i := 14) (v := .int .i64 0) rfl (fun W => by go_simp) (Till.high (by rfl) BD.out) ?_
            (try simp only [Act.put, List.getElem_toArray, List.getElem_cons_succ, List.getElem_cons_zero, List.setIfInBounds_toArray, List.set_cons_zero, List.set_cons_succ])
            refine Ph.done (by kernel_rfl) ?_ _
            go_wp2_with fail
            go_meet
            exact ⟨rfl, gd, gm, a3, c3, rfl, rfl, Kd, Km, R3, BD⟩
      obtain ⟨rfl, gd, gm, a3, c3, rfl, rfl, Kd, Km, R3, XB⟩ := hcut
      have hb := XB.out
      clear XB
      replace Kg := Lib.hid (Kg.out.below hb Kg.out.lt)
      replace Kp := Lib.hid (Kp.out.below hb Kp.out.lt)
      replace Kc := Lib.hid (Kc.out.below hb Kc.out.lt)
      replace R2 := Lib.hid (R2.out.mono hb)
      replace B := Lib.hid (B.out.trans (hb.mono B.out.size))
      clear hb
      clear R2
      have BGm := BNm
      obtain ⟨bgc0, bgc1, bgc2⟩ := three Kg.out
      obtain ⟨bpc0, bpc1⟩ := twob Kp.out
      obtain ⟨bcc0, bcc1, bcc2⟩ := three Kc.out
      obtain ⟨bdc0, bdc1, bdc2⟩ := three Kd.out
      obtain ⟨bmc0, bmc1, bmc2, bmc3⟩ := LCm.out _ _ Km.out
      have q1 : (m != m) = false := by simp
      have q2 : (la != la) = false := by simp
      have q3 : (u != u) = false := by simp
      go_wp2_with (fail)
      refine (VA3.out a3 c3 _ R3.out).mono ?_
      rintro e w23 ⟨rfl, hb⟩
      replace Kg := Lib.hid (Kg.out.below hb Kg.out.lt)
      replace Kp := Lib.hid (Kp.out.below hb Kp.out.lt)
      replace Kc := Lib.hid (Kc.out.below hb Kc.out.lt)
      replace Kd := Lib.hid (Kd.out.below hb Kd.out.lt)
      replace Km := Lib.hid (Km.out.below hb Km.out.lt)
      replace R3 := Lib.hid (R3.out.mono hb)
      replace B := Lib.hid (B.out.trans (hb.mono B.out.size))
      clear bgc0 bgc1 bgc2 bpc0 bpc1 bcc0 bcc1 bcc2 bdc0 bdc1 bdc2 bmc0 bmc1 bmc2 bmc3
      clear hb
      obtain ⟨bgc0, bgc1, bgc2⟩ := three Kg.out
      obtain ⟨bpc0, bpc1⟩ := twob Kp.out
      obtain ⟨bcc0, bcc1, bcc2⟩ := three Kc.out
      obtain ⟨bdc0, bdc1, bdc2⟩ := three Kd.out
      obtain ⟨bmc0, bmc1, bmc2, bmc3⟩ := LCm.out _ _ Km.out
      clear R3
      clear bgc0 bgc1 bgc2 bpc0 bpc1 bcc0 bcc1 bcc2 bdc0 bdc1 bdc2 bmc0 bmc1 bmc2 bmc3
      obtain ⟨bgc0, bgc1, bgc2⟩ := three Kg.out
      obtain ⟨bpc0, bpc1⟩ := twob Kp.out
      obtain ⟨bcc0, bcc1, bcc2⟩ := three Kc.out
      obtain ⟨bdc0, bdc1, bdc2⟩ := three Kd.out
      obtain ⟨bmc0, bmc1, bmc2, bmc3⟩ := LCm.out _ _ Km.out
      go_upto_region 17 with (fail)
      clear bgc0 bgc1 bgc2 bpc0 bpc1 bcc0 bcc1 bcc2 bdc0 bdc1 bdc2 bmc0 bmc1 bmc2 bmc3
      go_cut [20, 21] from 156 to 166 (fun u20 u21 wx => u21 = .int .i64 0 ∧ ∃ gs, u20 = .pointer (some ⟨gs, 0, none⟩) ∧ Hid (Blk wx gs 67 HC) ∧ Hid (Below w23.heap.size w23 wx))
      case first =>
        refine Ph.start (S := Till 7 (fun _ => True) (fun W => Below w23.heap.size w23 W)) (by kernel_rfl) (Till.low trivial (Below.refl _ _).drew) (fun _ => ?_)
        have BD := Lib.hid (Below.refl w23.heap.size w23).drew
        generalize w23.drew = vc1 at BD ⊢
        refine Ph.takeP (i := 2) (v := .int .i64 m) rfl (fun W => by go_simp) (Till.low trivial BD.out) ?_
        refine Ph.takeP (i := 3) (v := .pointer (some ⟨G, 0, none⟩)) rfl (fun W => by go_simp) (Till.low trivial BD.out) ?_
        refine Ph.takeU (i := 4) (v := .int .i64 la) rfl (Or.inl ⟨by rfl, fun W hW => by obtain ⟨z0, z1, z2⟩ := three (Kg.out.below hW Kg.out.lt); go_simp⟩) (Till.low trivial BD.out) ?_
        refine Ph.takeP (i := 5) (v := .agg H1) rfl (fun W => by rw [← EZ1.out]; kernel_rfl) (Till.low trivial BD.out) ?_
        refine Ph.takeU (i := 6) (v := .agg (LC)) rfl (Or.inl ⟨by rfl, fun W hW => exec_load_row 38 _ rfl (gm) rfl 38 (LC) (0, 0) _ (Km.out.below hW Km.out.lt) Tryd.underlying38 rfl BNm.out.info⟩) (Till.low trivial BD.out) ?_
        (try simp only [Act.put, List.getElem_toArray, List.getElem_cons_succ, List.getElem_cons_zero, List.setIfInBounds_toArray, List.set_cons_zero, List.set_cons_succ])
        refine Ph.ready (rs := [0, 11]) (by kernel_rfl) (by simp) (All.cons rfl (fun K hK => ?_) (All.cons rfl (fun K hK => ?_) (All.nil)))
        · go_simp
          refine (sn_key _).mono ?_
          rintro e vc2 ⟨rfl, hb⟩
          replace BD := Lib.hid (bt BD.out hb)
          clear hb
          go_wp2_with fail
          refine hK _ _ (Till.low trivial BD.out) (fun _ => ?_)
          clear hK K
          (try simp only [Act.put, List.getElem_toArray, List.getElem_cons_succ, List.getElem_cons_zero, List.setIfInBounds_toArray, List.set_cons_zero, List.set_cons_succ])
          refine Ph.ready (rs := [1, 11]) (by kernel_rfl) (by simp) (All.cons rfl (fun K hK => ?_) (All.cons rfl (fun K hK => ?_) (All.nil)))
          · go_simp
            obtain ⟨gk, hgk⟩ : ∃ G, vc2.heap.size = G := ⟨_, rfl⟩
            have Kk := Lib.hid (Blk.new' vc2 26 #[.int .i64 1, .int .i64 1, .string kS, .int .i64 0, .int .i64 1099511627776] _ hgk rfl)
            have Lk := Lib.hid (show w23.heap.size ≤ gk from by rw [← hgk]; exact BD.out.size)
            replace BD := Lib.hid (BD.out.alloc BD.out.size (.cells #[.int .i64 1, .int .i64 1, .string kS, .int .i64 0, .int .i64 1099511627776] 26))
            try rw [hgk]
            generalize hw2 : vc2.alloc (.cells #[.int .i64 1, .int .i64 1, .string kS, .int .i64 0, .int .i64 1099511627776] 26) = vc3 at Kk BD ⊢
            clear hw2 hgk
            refine hK _ _ (Till.low trivial BD.out) (fun _ => ?_)
            clear hK K
            (try simp only [Act.put, List.getElem_toArray, List.getElem_cons_succ, List.getElem_cons_zero, List.setIfInBounds_toArray, List.set_cons_zero, List.set_cons_succ])
            refine Ph.ready (rs := [7, 11]) (by kernel_rfl) (by simp) (All.cons rfl (fun K hK => ?_) (All.cons rfl (fun K hK => ?_) (All.nil)))
            · go_simp
              refine (TK1.out _ _ _ (ring_of Kk.out) (HLA.out.below (bt B.out BD.out))).mono ?_
              rintro e vc4 ⟨rfl, hb⟩
              replace Kk := Lib.hid (Kk.out.below hb Kk.out.lt)
              replace BD := Lib.hid (bt BD.out hb)
              clear hb
              go_wp2_with fail
              refine hK _ _ (Till.high (by rfl) BD.out) (fun _ => ?_)
              clear hK K
              refine Ph.takeP (i := 8) (v := .tuple #[.agg HC, .int .i64 0]) rfl (fun W => by go_simp) (Till.high (by rfl) BD.out) ?_
              refine Ph.takeP (i := 9) (v := .agg HC) rfl (fun W => by go_simp) (Till.high (by rfl) BD.out) ?_
              refine Ph.takeP (i := 10) (v := .int .i64 0) rfl (fun W => by go_simp) (Till.high (by rfl) BD.out) ?_
              (try simp only [Act.put, List.getElem_toArray, List.getElem_cons_succ, List.getElem_cons_zero, List.setIfInBounds_toArray, List.set_cons_zero, List.set_cons_succ])
              refine Ph.ready (rs := [11]) (by kernel_rfl) (by simp) (All.cons rfl (fun K hK => ?_) (All.nil))
              go_simp
              obtain ⟨gs, hgs⟩ : ∃ G, vc4.heap.size = G := ⟨_, rfl⟩
              have Ks := Lib.hid (Blk.new' vc4 67 #[.int .i64 0, .int .i64 0, .int .i64 0, .int .i64 0, .int .i64 0, .int .i64 0, .int .u8 0, .int .u8 0, .int .u8 0, .int .u8 0, .int .u8 0, .int .u8 0, .int .u8 0, .int .u8 0, .int .u8 0, .int .u8 0, .int .u8 0, .int .u8 0, .int .u8 0, .int .u8 0, .int .u8 0, .int .u8 0] _ hgs rfl)
              have Ls := Lib.hid (show w23.heap.size ≤ gs from by rw [← hgs]; exact BD.out.size)
              have Nks := Lib.hid (show gk < gs from by rw [← hgs]; exact Kk.out.lt)
              replace Kk := Lib.hid (Kk.out.alloc (.cells #[.int .i64 0, .int .i64 0, .int .i64 0, .int .i64 0, .int .i64 0, .int .i64 0, .int .u8 0, .int .u8 0, .int .u8 0, .int .u8 0, .int .u8 0, .int .u8 0, .int .u8 0, .int .u8 0, .int .u8 0, .int .u8 0, .int .u8 0, .int .u8 0, .int .u8 0, .int .u8 0, .int .u8 0, .int .u8 0] 67))
              replace BD := Lib.hid (BD.out.alloc BD.out.size (.cells #[.int .i64 0, .int .i64 0, .int .i64 0, .int .i64 0, .int .i64 0, .int .i64 0, .int .u8 0, .int .u8 0, .int .u8 0, .int .u8 0, .int .u8 0, .int .u8 0, .int .u8 0, .int .u8 0, .int .u8 0, .int .u8 0, .int .u8 0, .int .u8 0, .int .u8 0, .int .u8 0, .int .u8 0, .int .u8 0] 67))
              try rw [hgs]
              generalize hw2 : vc4.alloc (.cells #[.int .i64 0, .int .i64 0, .int .i64 0, .int .i64 0, .int .i64 0, .int .i64 0, .int .u8 0, .int .u8 0, .int .u8 0, .int .u8 0, .int .u8 0, .int .u8 0, .int .u8 0, .int .u8 0, .int .u8 0, .int .u8 0, .int .u8 0, .int .u8 0, .int .u8 0, .int .u8 0, .int .u8 0, .int .u8 0] 67) = vc5 at Kk Ks BD ⊢
              clear hw2 hgs
              refine hK _ _ (Till.high (by rfl) BD.out) (fun _ => ?_)
              clear hK K
              (try simp only [Act.put, List.getElem_toArray, List.getElem_cons_succ, List.getElem_cons_zero, List.setIfInBounds_toArray, List.set_cons_zero, List.set_cons_succ])
              refine Ph.ready (rs := [12]) (by kernel_rfl) (by simp) (All.cons rfl (fun K hK => ?_) (All.nil))
              rw [if_pos (by rfl)]
              refine wp_store_row 67 _ _ rfl (gs) 67 #[.int .i64 0, .int .i64 0, .int .i64 0, .int .i64 0, .int .i64 0, .int .i64 0, .int .u8 0, .int .u8 0, .int .u8 0, .int .u8 0, .int .u8 0, .int .u8 0, .int .u8 0, .int .u8 0, .int .u8 0, .int .u8 0, .int .u8 0, .int .u8 0, .int .u8 0, .int .u8 0, .int .u8 0, .int .u8 0] HC rfl rfl (Blk.hs Ks.out) BNs.out.info (big_heldZ.same BNs.out) BNs.out.one rfl ?_
              replace Ks := Lib.hid (Ks.out.row_ HC)
              replace Kk := Lib.hid (Kk.out.rowfar (show gk ≠ gs by have := Nks.out; omega) HC)
              replace BD := Lib.hid (below_setRow BD.out Ls.out HC)
              generalize hw2 : (vc5.setRow (gs) HC) = vc6 at Kk Ks BD ⊢
              clear hw2
              refine hK _ _ (Till.high (by rfl) BD.out) (fun _ => ?_)
              clear hK K
              refine Ph.takeP (i := 13) (v := .int .i64 0) rfl (fun W => by go_simp) (Till.high (by rfl) BD.out) ?_
              (try simp only [Act.put, List.getElem_toArray, List.getElem_cons_succ, List.getElem_cons_zero, List.setIfInBounds_toArray, List.set_cons_zero, List.set_cons_succ])
              refine Ph.done (by kernel_rfl) ?_ _
              go_wp2_with fail
              go_meet
              exact ⟨rfl, gs, rfl, Ks, BD⟩
            · go_simp
              obtain ⟨gs, hgs⟩ : ∃ G, vc3.heap.size = G := ⟨_, rfl⟩
              have Ks := Lib.hid (Blk.new' vc3 67 #[.int .i64 0, .int .i64 0, .int .i64 0, .int .i64 0, .int .i64 0, .int .i64 0, .int .u8 0, .int .u8 0, .int .u8 0, .int .u8 0, .int .u8 0, .int .u8 0, .int .u8 0, .int .u8 0, .int .u8 0, .int .u8 0, .int .u8 0, .int .u8 0, .int .u8 0, .int .u8 0, .int .u8 0, .int .u8 0] _ hgs rfl)
              have Ls := Lib.hid (show w23.heap.size ≤ gs from by rw [← hgs]; exact BD.out.size)
              have Nks := Lib.hid (show gk < gs from by rw [← hgs]; exact Kk.out.lt)
              replace Kk := Lib.hid (Kk.out.alloc (.cells #[.int .i64 0, .int .i64 0, .int .i64 0, .int .i64 0, .int .i64 0, .int .i64 0, .int .u8 0, .int .u8 0, .int .u8 0, .int .u8 0, .int .u8 0, .int .u8 0, .int .u8 0, .int .u8 0, .int .u8 0, .int .u8 0, .int .u8 0, .int .u8 0, .int .u8 0, .int .u8 0, .int .u8 0, .int .u8 0] 67))
              replace BD := Lib.hid (BD.out.alloc BD.out.size (.cells #[.int .i64 0, .int .i64 0, .int .i64 0, .int .i64 0, .int .i64 0, .int .i64 0, .int .u8 0, .int .u8 0, .int .u8 0, .int .u8 0, .int .u8 0, .int .u8 0, .int .u8 0, .int .u8 0, .int .u8 0, .int .u8 0, .int .u8 0, .int .u8 0, .int .u8 0, .int .u8 0, .int .u8 0, .int .u8 0] 67))
              try rw [hgs]
              generalize hw2 : vc3.alloc (.cells #[.int .i64 0, .int .i64 0, .int .i64 0, .int .i64 0, .int .i64 0, .int .i64 0, .int .u8 0, .int .u8 0, .int .u8 0, .int .u8 0, .int .u8 0, .int .u8 0, .int .u8 0, .int .u8 0, .int .u8 0, .int .u8 0, .int .u8 0, .int .u8 0, .int .u8 0, .int .u8 0, .int .u8 0, .int .u8 0] 67) = vc7 at Kk Ks BD ⊢
              clear hw2 hgs
              refine hK _ _ (Till.low trivial BD.out) (fun _ => ?_)
              clear hK K
              (try simp only [Act.put, List.getElem_toArray, List.getElem_cons_succ, List.getElem_cons_zero, List.setIfInBounds_toArray, List.set_cons_zero, List.set_cons_succ])
              refine Ph.ready (rs := [7]) (by kernel_rfl) (by simp) (All.cons rfl (fun K hK => ?_) (All.nil))
              go_simp
              refine (TK1.out _ _ _ (ring_of Kk.out) (HLA.out.below (bt B.out BD.out))).mono ?_
              rintro e vc8 ⟨rfl, hb⟩
              replace Kk := Lib.hid (Kk.out.below hb Kk.out.lt)
              replace Ks := Lib.hid (Ks.out.below hb Ks.out.lt)
              replace BD := Lib.hid (bt BD.out hb)
              clear hb
              go_wp2_with fail
              refine hK _ _ (Till.high (by rfl) BD.out) (fun _ => ?_)
              clear hK K
              refine Ph.takeP (i := 8) (v := .tuple #[.agg HC, .int .i64 0]) rfl (fun W => by go_simp) (Till.high (by rfl) BD.out) ?_
              refine Ph.takeP (i := 9) (v := .agg HC) rfl (fun W => by go_simp) (Till.high (by rfl) BD.out) ?_
              refine Ph.takeP (i := 10) (v := .int .i64 0) rfl (fun W => by go_simp) (Till.high (by rfl) BD.out) ?_
              (try simp only [Act.put, List.getElem_toArray, List.getElem_cons_succ, List.getElem_cons_zero, List.setIfInBounds_toArray, List.set_cons_zero, List.set_cons_succ])
              refine Ph.ready (rs := [12]) (by kernel_rfl) (by simp) (All.cons rfl (fun K hK => ?_) (All.nil))
              rw [if_pos (by rfl)]
              refine wp_store_row 67 _ _ rfl (gs) 67 #[.int .i64 0, .int .i64 0, .int .i64 0, .int .i64 0, .int .i64 0, .int .i64 0, .int .u8 0, .int .u8 0, .int .u8 0, .int .u8 0, .int .u8 0, .int .u8 0, .int .u8 0, .int .u8 0, .int .u8 0, .int .u8 0, .int .u8 0, .int .u8 0, .int .u8 0, .int .u8 0, .int .u8 0, .int .u8 0] HC rfl rfl (Blk.hs Ks.out) BNs.out.info (big_heldZ.same BNs.out) BNs.out.one rfl ?_
              replace Ks := Lib.hid (Ks.out.row_ HC)
              replace Kk := Lib.hid (Kk.out.rowfar (show gk ≠ gs by have := Nks.out; omega) HC)
              replace BD := Lib.hid (below_setRow BD.out Ls.out HC)
              generalize hw2 : (vc8.setRow (gs) HC) = vc9 at Kk Ks BD ⊢
              clear hw2
              refine hK _ _ (Till.high (by rfl) BD.out) (fun _ => ?_)
              clear hK K
              refine Ph.takeP (i := 13) (v := .int .i64 0) rfl (fun W => by go_simp) (Till.high (by rfl) BD.out) ?_
              (try simp only [Act.put, List.getElem_toArray, List.getElem_cons_succ, List.getElem_cons_zero, List.setIfInBounds_toArray, List.set_cons_zero, List.set_cons_succ])
              refine Ph.done (by kernel_rfl) ?_ _
              go_wp2_with fail
              go_meet
              exact ⟨rfl, gs, rfl, Ks, BD⟩
          · go_simp
            obtain ⟨gs, hgs⟩ : ∃ G, vc2.heap.size = G := ⟨_, rfl⟩
            have Ks := Lib.hid (Blk.new' vc2 67 #[.int .i64 0, .int .i64 0, .int .i64 0, .int .i64 0, .int .i64 0, .int .i64 0, .int .u8 0, .int .u8 0, .int .u8 0, .int .u8 0, .int .u8 0, .int .u8 0, .int .u8 0, .int .u8 0, .int .u8 0, .int .u8 0, .int .u8 0, .int .u8 0, .int .u8 0, .int .u8 0, .int .u8 0, .int .u8 0] _ hgs rfl)
            have Ls := Lib.hid (show w23.heap.size ≤ gs from by rw [← hgs]; exact BD.out.size)
            replace BD := Lib.hid (BD.out.alloc BD.out.size (.cells #[.int .i64 0, .int .i64 0, .int .i64 0, .int .i64 0, .int .i64 0, .int .i64 0, .int .u8 0, .int .u8 0, .int .u8 0, .int .u8 0, .int .u8 0, .int .u8 0, .int .u8 0, .int .u8 0, .int .u8 0, .int .u8 0, .int .u8 0, .int .u8 0, .int .u8 0, .int .u8 0, .int .u8 0, .int .u8 0] 67))
            try rw [hgs]
            generalize hw2 : vc2.alloc (.cells #[.int .i64 0, .int .i64 0, .int .i64 0, .int .i64 0, .int .i64 0, .int .i64 0, .int .u8 0, .int .u8 0, .int .u8 0, .int .u8 0, .int .u8 0, .int .u8 0, .int .u8 0, .int .u8 0, .int .u8 0, .int .u8 0, .int .u8 0, .int .u8 0, .int .u8 0, .int .u8 0, .int .u8 0, .int .u8 0] 67) = vc10 at Ks BD ⊢
            clear hw2 hgs
            refine hK _ _ (Till.low trivial BD.out) (fun _ => ?_)
            clear hK K
            (try simp only [Act.put, List.getElem_toArray, List.getElem_cons_succ, List.getElem_cons_zero, List.setIfInBounds_toArray, List.set_cons_zero, List.set_cons_succ])
            refine Ph.ready (rs := [1]) (by kernel_rfl) (by simp) (All.cons rfl (fun K hK => ?_) (All.nil))
            go_simp
            obtain ⟨gk, hgk⟩ : ∃ G, vc10.heap.size = G := ⟨_, rfl⟩
            have Kk := Lib.hid (Blk.new' vc10 26 #[.int .i64 1, .int .i64 1, .string kS, .int .i64 0, .int .i64 1099511627776] _ hgk rfl)
            have Lk := Lib.hid (show w23.heap.size ≤ gk from by rw [← hgk]; exact BD.out.size)
            have Nsk := Lib.hid (show gs < gk from by rw [← hgk]; exact Ks.out.lt)
            replace Ks := Lib.hid (Ks.out.alloc (.cells #[.int .i64 1, .int .i64 1, .string kS, .int .i64 0, .int .i64 1099511627776] 26))
            replace BD := Lib.hid (BD.out.alloc BD.out.size (.cells #[.int .i64 1, .int .i64 1, .string kS, .int .i64 0, .int .i64 1099511627776] 26))
            try rw [hgk]
            generalize hw2 : vc10.alloc (.cells #[.int .i64 1, .int .i64 1, .string kS, .int .i64 0, .int .i64 1099511627776] 26) = vc11 at Ks Kk BD ⊢
            clear hw2 hgk
            refine hK _ _ (Till.low trivial BD.out) (fun _ => ?_)
            clear hK K
            (try simp only [Act.put, List.getElem_toArray, List.getElem_cons_succ, List.getElem_cons_zero, List.setIfInBounds_toArray, List.set_cons_zero, List.set_cons_succ])
            refine Ph.ready (rs := [7]) (by kernel_rfl) (by simp) (All.cons rfl (fun K hK => ?_) (All.nil))
            go_simp
            refine (TK1.out _ _ _ (ring_of Kk.out) (HLA.out.below (bt B.out BD.out))).mono ?_
            rintro e vc12 ⟨rfl, hb⟩
            replace Ks := Lib.hid (Ks.out.below hb Ks.out.lt)
            replace Kk := Lib.hid (Kk.out.below hb Kk.out.lt)
            replace BD := Lib.hid (bt BD.out hb)
            clear hb
            go_wp2_with fail
            refine hK _ _ (Till.high (by rfl) BD.out) (fun _ => ?_)
            clear hK K
            refine Ph.takeP (i := 8) (v := .tuple #[.agg HC, .int .i64 0]) rfl (fun W => by go_simp) (Till.high (by rfl) BD.out) ?_
            refine Ph.takeP (i := 9) (v := .agg HC) rfl (fun W => by go_simp) (Till.high (by rfl) BD.out) ?_
            refine Ph.takeP (i := 10) (v := .int .i64 0) rfl (fun W => by go_simp) (Till.high (by rfl) BD.out) ?_
            (try simp only [Act.put, List.getElem_toArray, List.getElem_cons_succ, List.getElem_cons_zero, List.setIfInBounds_toArray, List.set_cons_zero, List.set_cons_succ])
            refine Ph.ready (rs := [12]) (by kernel_rfl) (by simp) (All.cons rfl (fun K hK => ?_) (All.nil))
            rw [if_pos (by rfl)]
            refine wp_store_row 67 _ _ rfl (gs) 67 #[.int .i64 0, .int .i64 0, .int .i64 0, .int .i64 0, .int .i64 0, .int .i64 0, .int .u8 0, .int .u8 0, .int .u8 0, .int .u8 0, .int .u8 0, .int .u8 0, .int .u8 0, .int .u8 0, .int .u8 0, .int .u8 0, .int .u8 0, .int .u8 0, .int .u8 0, .int .u8 0, .int .u8 0, .int .u8 0] HC rfl rfl (Blk.hs Ks.out) BNs.out.info (big_heldZ.same BNs.out) BNs.out.one rfl ?_
            replace Ks := Lib.hid (Ks.out.row_ HC)
            replace Kk := Lib.hid (Kk.out.rowfar (show gk ≠ gs by have := Nsk.out; omega) HC)
            replace BD := Lib.hid (below_setRow BD.out Ls.out HC)
            generalize hw2 : (vc12.setRow (gs) HC) = vc13 at Ks Kk BD ⊢
            clear hw2
            refine hK _ _ (Till.high (by rfl) BD.out) (fun _ => ?_)
            clear hK K
            refine Ph.takeP (i := 13) (v := .int .i64 0) rfl (fun W => by go_simp) (Till.high (by rfl) BD.out) ?_
            (try simp only [Act.put, List.getElem_toArray, List.getElem_cons_succ, List.getElem_cons_zero, List.setIfInBounds_toArray, List.set_cons_zero, List.set_cons_succ])
            refine Ph.done (by kernel_rfl) ?_ _
            go_wp2_with fail
            go_meet
            exact ⟨rfl, gs, rfl, Ks, BD⟩
        · go_simp
          obtain ⟨gs, hgs⟩ : ∃ G, vc1.heap.size = G := ⟨_, rfl⟩
          have Ks := Lib.hid (Blk.new' vc1 67 #[.int .i64 0, .int .i64 0, .int .i64 0, .int .i64 0, .int .i64 0, .int .i64 0, .int .u8 0, .int .u8 0, .int .u8 0, .int .u8 0, .int .u8 0, .int .u8 0, .int .u8 0, .int .u8 0, .int .u8 0, .int .u8 0, .int .u8 0, .int .u8 0, .int .u8 0, .int .u8 0, .int .u8 0, .int .u8 0] _ hgs rfl)
          have Ls := Lib.hid (show w23.heap.size ≤ gs from by rw [← hgs]; exact BD.out.size)
          replace BD := Lib.hid (BD.out.alloc BD.out.size (.cells #[.int .i64 0, .int .i64 0, .int .i64 0, .int .i64 0, .int .i64 0, .int .i64 0, .int .u8 0, .int .u8 0, .int .u8 0, .int .u8 0, .int .u8 0, .int .u8 0, .int .u8 0, .int .u8 0, .int .u8 0, .int .u8 0, .int .u8 0, .int .u8 0, .int .u8 0, .int .u8 0, .int .u8 0, .int .u8 0] 67))
          try rw [hgs]
          generalize hw2 : vc1.alloc (.cells #[.int .i64 0, .int .i64 0, .int .i64 0, .int .i64 0, .int .i64 0, .int .i64 0, .int .u8 0, .int .u8 0, .int .u8 0, .int .u8 0, .int .u8 0, .int .u8 0, .int .u8 0, .int .u8 0, .int .u8 0, .int .u8 0, .int .u8 0, .int .u8 0, .int .u8 0, .int .u8 0, .int .u8 0, .int .u8 0] 67) = vc14 at Ks BD ⊢
          clear hw2 hgs
          refine hK _ _ (Till.low trivial BD.out) (fun _ => ?_)
          clear hK K
          (try simp only [Act.put, List.getElem_toArray, List.getElem_cons_succ, List.getElem_cons_zero, List.setIfInBounds_toArray, List.set_cons_zero, List.set_cons_succ])
          refine Ph.ready (rs := [0]) (by kernel_rfl) (by simp) (All.cons rfl (fun K hK => ?_) (All.nil))
          go_simp
          refine (sn_key _).mono ?_
          rintro e vc15 ⟨rfl, hb⟩
          replace Ks := Lib.hid (Ks.out.below hb Ks.out.lt)
          replace BD := Lib.hid (bt BD.out hb)
          clear hb
          go_wp2_with fail
          refine hK _ _ (Till.low trivial BD.out) (fun _ => ?_)
          clear hK K
          (try simp only [Act.put, List.getElem_toArray, List.getElem_cons_succ, List.getElem_cons_zero, List.setIfInBounds_toArray, List.set_cons_zero, List.set_cons_succ])
          refine Ph.ready (rs := [1]) (by kernel_rfl) (by simp) (All.cons rfl (fun K hK => ?_) (All.nil))
          go_simp
          obtain ⟨gk, hgk⟩ : ∃ G, vc15.heap.size = G := ⟨_, rfl⟩
          have Kk := Lib.hid (Blk.new' vc15 26 #[.int .i64 1, .int .i64 1, .string kS, .int .i64 0, .int .i64 1099511627776] _ hgk rfl)
          have Lk := Lib.hid (show w23.heap.size ≤ gk from by rw [← hgk]; exact BD.out.size)
          have Nsk := Lib.hid (show gs < gk from by rw [← hgk]; exact Ks.out.lt)
          replace Ks := Lib.hid (Ks.out.alloc (.cells #[.int .i64 1, .int .i64 1, .string kS, .int .i64 0, .int .i64 1099511627776] 26))
          replace BD := Lib.hid (BD.out.alloc BD.out.size (.cells #[.int .i64 1, .int .i64 1, .string kS, .int .i64 0, .int .i64 1099511627776] 26))
          try rw [hgk]
          generalize hw2 : vc15.alloc (.cells #[.int .i64 1, .int .i64 1, .string kS, .int .i64 0, .int .i64 1099511627776] 26) = vc16 at Ks Kk BD ⊢
          clear hw2 hgk
          refine hK _ _ (Till.low trivial BD.out) (fun _ => ?_)
          clear hK K
          (try simp only [Act.put, List.getElem_toArray, List.getElem_cons_succ, List.getElem_cons_zero, List.setIfInBounds_toArray, List.set_cons_zero, List.set_cons_succ])
          refine Ph.ready (rs := [7]) (by kernel_rfl) (by simp) (All.cons rfl (fun K hK => ?_) (All.nil))
          go_simp
          refine (TK1.out _ _ _ (ring_of Kk.out) (HLA.out.below (bt B.out BD.out))).mono ?_
          rintro e vc17 ⟨rfl, hb⟩
          replace Ks := Lib.hid (Ks.out.below hb Ks.out.lt)
          replace Kk := Lib.hid (Kk.out.below hb Kk.out.lt)
          replace BD := Lib.hid (bt BD.out hb)
          clear hb
          go_wp2_with fail
          refine hK _ _ (Till.high (by rfl) BD.out) (fun _ => ?_)
          clear hK K
          refine Ph.takeP (i := 8) (v := .tuple #[.agg HC, .int .i64 0]) rfl (fun W => by go_simp) (Till.high (by rfl) BD.out) ?_
          refine Ph.takeP (i := 9) (v := .agg HC) rfl (fun W => by go_simp) (Till.high (by rfl) BD.out) ?_
          refine Ph.takeP (i := 10) (v := .int .i64 0) rfl (fun W => by go_simp) (Till.high (by rfl) BD.out) ?_
          (try simp only [Act.put, List.getElem_toArray, List.getElem_cons_succ, List.getElem_cons_zero, List.setIfInBounds_toArray, List.set_cons_zero, List.set_cons_succ])
          refine Ph.ready (rs := [12]) (by kernel_rfl) (by simp) (All.cons rfl (fun K hK => ?_) (All.nil))
          rw [if_pos (by rfl)]
          refine wp_store_row 67 _ _ rfl (gs) 67 #[.int .i64 0, .int .i64 0, .int .i64 0, .int .i64 0, .int .i64 0, .int .i64 0, .int .u8 0, .int .u8 0, .int .u8 0, .int .u8 0, .int .u8 0, .int .u8 0, .int .u8 0, .int .u8 0, .int .u8 0, .int .u8 0, .int .u8 0, .int .u8 0, .int .u8 0, .int .u8 0, .int .u8 0, .int .u8 0] HC rfl rfl (Blk.hs Ks.out) BNs.out.info (big_heldZ.same BNs.out) BNs.out.one rfl ?_
          replace Ks := Lib.hid (Ks.out.row_ HC)
          replace Kk := Lib.hid (Kk.out.rowfar (show gk ≠ gs by have := Nsk.out; omega) HC)
          replace BD := Lib.hid (below_setRow BD.out Ls.out HC)
          generalize hw2 : (vc17.setRow (gs) HC) = vc18 at Ks Kk BD ⊢
          clear hw2
          refine hK _ _ (Till.high (by rfl) BD.out) (fun _ => ?_)
          clear hK K
          refine Ph.takeP (i := 13) (v := .int .i64 0) rfl (fun W => by go_simp) (Till.high (by rfl) BD.out) ?_
          (try simp only [Act.put, List.getElem_toArray, List.getElem_cons_succ, List.getElem_cons_zero, List.setIfInBounds_toArray, List.set_cons_zero, List.set_cons_succ])
          refine Ph.done (by kernel_rfl) ?_ _
          go_wp2_with fail
          go_meet
          exact ⟨rfl, gs, rfl, Ks, BD⟩
      obtain ⟨rfl, gs, rfl, Ks, XB⟩ := hcut
      have hb := XB.out
      clear XB
      replace Kg := Lib.hid (Kg.out.below hb Kg.out.lt)
      replace Kp := Lib.hid (Kp.out.below hb Kp.out.lt)
      replace Kc := Lib.hid (Kc.out.below hb Kc.out.lt)
      replace Kd := Lib.hid (Kd.out.below hb Kd.out.lt)
      replace Km := Lib.hid (Km.out.below hb Km.out.lt)
      replace B := Lib.hid (B.out.trans (hb.mono B.out.size))
      clear hb
      have BGs := BNs
      obtain ⟨bgc0, bgc1, bgc2⟩ := three Kg.out
      obtain ⟨bpc0, bpc1⟩ := twob Kp.out
      obtain ⟨bcc0, bcc1, bcc2⟩ := three Kc.out
      obtain ⟨bdc0, bdc1, bdc2⟩ := three Kd.out
      obtain ⟨bmc0, bmc1, bmc2, bmc3⟩ := LCm.out _ _ Km.out
      have ne := NE.out
      go_upto_region 20 with (first | (with_reducible refine wpList_load_midw (by kernel_rfl) 38 _ rfl gs 2 rfl LC _ (MID.out _ _ Ks.out) Tryd.underlying38 rfl BNm.out.info ?_) | (with_reducible refine wpList_load_want (by kernel_rfl) 38 _ rfl (gm) rfl 38 (LC) _ Km.out Tryd.underlying38 rfl BGm.out.info ?_))
      by_cases h0 : la = 0
      clear bgc0 bgc1 bgc2 bpc0 bpc1 bcc0 bcc1 bcc2 bdc0 bdc1 bdc2 bmc0 bmc1 bmc2 bmc3
      · have t8 : (la == 0) = true := beq_iff_eq.2 h0
        clear h0
        obtain ⟨bgc0, bgc1, bgc2⟩ := three Kg.out
        obtain ⟨bpc0, bpc1⟩ := twob Kp.out
        obtain ⟨bcc0, bcc1, bcc2⟩ := three Kc.out
        obtain ⟨bdc0, bdc1, bdc2⟩ := three Kd.out
        obtain ⟨bmc0, bmc1, bmc2, bmc3⟩ := LCm.out _ _ Km.out
        go_wp2_with (fail)
        refine (SNT.out _ (HLA.out.below B.out)).mono ?_
        rintro e w24 ⟨rfl, hb⟩
        replace Kg := Lib.hid (Kg.out.below hb Kg.out.lt)
        replace Kp := Lib.hid (Kp.out.below hb Kp.out.lt)
        replace Kc := Lib.hid (Kc.out.below hb Kc.out.lt)
        replace Kd := Lib.hid (Kd.out.below hb Kd.out.lt)
        replace Km := Lib.hid (Km.out.below hb Km.out.lt)
        replace Ks := Lib.hid (Ks.out.below hb Ks.out.lt)
        replace B := Lib.hid (B.out.trans (hb.mono B.out.size))
        clear bgc0 bgc1 bgc2 bpc0 bpc1 bcc0 bcc1 bcc2 bdc0 bdc1 bdc2 bmc0 bmc1 bmc2 bmc3
        clear hb
        obtain ⟨bgc0, bgc1, bgc2⟩ := three Kg.out
        obtain ⟨bpc0, bpc1⟩ := twob Kp.out
        obtain ⟨bcc0, bcc1, bcc2⟩ := three Kc.out
        obtain ⟨bdc0, bdc1, bdc2⟩ := three Kd.out
        obtain ⟨bmc0, bmc1, bmc2, bmc3⟩ := LCm.out _ _ Km.out
        go_wp2
        go_ret
        exact ⟨rfl, B.out⟩
      · have t8 : (la == 0) = false := beq_eq_false_iff_ne.2 h0
        have HL0 := Lib.hid (show 0 < la by have := HLa.out; omega)
        clear h0
        obtain ⟨bgc0, bgc1, bgc2⟩ := three Kg.out
        obtain ⟨bpc0, bpc1⟩ := twob Kp.out
        obtain ⟨bcc0, bcc1, bcc2⟩ := three Kc.out
        obtain ⟨bdc0, bdc1, bdc2⟩ := three Kd.out
        obtain ⟨bmc0, bmc1, bmc2, bmc3⟩ := LCm.out _ _ Km.out
        go_upto_region 22 with (fail)
        clear bgc0 bgc1 bgc2 bpc0 bpc1 bcc0 bcc1 bcc2 bdc0 bdc1 bdc2 bmc0 bmc1 bmc2 bmc3
        have wl1 : IntKind.i64.wrap (la - 1) = la - 1 := by have := HLa.out; rw [IntKind.wrap_i64]; omega
        go_cut [23] from 179 to 190 (fun u23 wx => u23 = .int .i64 4 ∧ Hid (Below wc.heap.size wc wx))
        case first =>
          refine Ph.start (S := Till 8 (fun _ => True) (fun W => Below wc.heap.size wc W)) (by kernel_rfl) (Till.low trivial (Below.refl _ _).drew) (fun _ => ?_)
          have BD := Lib.hid (Below.refl wc.heap.size wc).drew
          generalize wc.drew = vd1 at BD ⊢
          refine Ph.takeP (i := 2) (v := .int .i64 m) rfl (fun W => by go_simp) (Till.low trivial BD.out) ?_
          refine Ph.takeP (i := 3) (v := .pointer (some ⟨G, 0, none⟩)) rfl (fun W => by go_simp) (Till.low trivial BD.out) ?_
          refine Ph.takeU (i := 4) (v := .int .i64 la) rfl (Or.inl ⟨by rfl, fun W hW => by obtain ⟨z0, z1, z2⟩ := three (Kg.out.below hW Kg.out.lt); go_simp⟩) (Till.low trivial BD.out) ?_
          refine Ph.takeP (i := 5) (v := .int .i64 (la - 1)) rfl (fun W => by go_simp) (Till.low trivial BD.out) ?_
          refine Ph.takeP (i := 6) (v := .agg H2) rfl (fun W => by rw [← EZ2.out]; kernel_rfl) (Till.low trivial BD.out) ?_
          refine Ph.takeU (i := 7) (v := .agg (LC)) rfl (Or.inl ⟨by rfl, fun W hW => exec_load_row 38 _ rfl (gm) rfl 38 (LC) (0, 0) _ (Km.out.below hW Km.out.lt) Tryd.underlying38 rfl BNm.out.info⟩) (Till.low trivial BD.out) ?_
          (try simp only [Act.put, List.getElem_toArray, List.getElem_cons_succ, List.getElem_cons_zero, List.setIfInBounds_toArray, List.set_cons_zero, List.set_cons_succ])
          refine Ph.ready (rs := [0, 12]) (by kernel_rfl) (by simp) (All.cons rfl (fun K hK => ?_) (All.cons rfl (fun K hK => ?_) (All.nil)))
          · go_simp
            refine (sn_key _).mono ?_
            rintro e vd2 ⟨rfl, hb⟩
            replace BD := Lib.hid (bt BD.out hb)
            clear hb
            go_wp2_with fail
            refine hK _ _ (Till.low trivial BD.out) (fun _ => ?_)
            clear hK K
            (try simp only [Act.put, List.getElem_toArray, List.getElem_cons_succ, List.getElem_cons_zero, List.setIfInBounds_toArray, List.set_cons_zero, List.set_cons_succ])
            refine Ph.ready (rs := [1, 12]) (by kernel_rfl) (by simp) (All.cons rfl (fun K hK => ?_) (All.cons rfl (fun K hK => ?_) (All.nil)))
            · go_simp
              obtain ⟨gk, hgk⟩ : ∃ G, vd2.heap.size = G := ⟨_, rfl⟩
              have Kk := Lib.hid (Blk.new' vd2 26 #[.int .i64 1, .int .i64 1, .string kS, .int .i64 0, .int .i64 1099511627776] _ hgk rfl)
              have Lk := Lib.hid (show wc.heap.size ≤ gk from by rw [← hgk]; exact BD.out.size)
              replace BD := Lib.hid (BD.out.alloc BD.out.size (.cells #[.int .i64 1, .int .i64 1, .string kS, .int .i64 0, .int .i64 1099511627776] 26))
              try rw [hgk]
              generalize hw2 : vd2.alloc (.cells #[.int .i64 1, .int .i64 1, .string kS, .int .i64 0, .int .i64 1099511627776] 26) = vd3 at Kk BD ⊢
              clear hw2 hgk
              refine hK _ _ (Till.low trivial BD.out) (fun _ => ?_)
              clear hK K
              (try simp only [Act.put, List.getElem_toArray, List.getElem_cons_succ, List.getElem_cons_zero, List.setIfInBounds_toArray, List.set_cons_zero, List.set_cons_succ])
              refine Ph.ready (rs := [8, 12]) (by kernel_rfl) (by simp) (All.cons rfl (fun K hK => ?_) (All.cons rfl (fun K hK => ?_) (All.nil)))
              · go_simp
                refine (TK2.out HL0.out _ _ _ (ring_of Kk.out) (HLA.out.below (bt B.out BD.out))).mono ?_
                rintro e vd4 ⟨rfl, hb⟩
                replace Kk := Lib.hid (Kk.out.below hb Kk.out.lt)
                replace BD := Lib.hid (bt BD.out hb)
                clear hb
                go_wp2_with fail
                refine hK _ _ (Till.high (by rfl) BD.out) (fun _ => ?_)
                clear hK K
                refine Ph.takeP (i := 9) (v := .tuple #[.agg H2, .int .i64 4]) rfl (fun W => by go_simp) (Till.high (by rfl) BD.out) ?_
                refine Ph.takeP (i := 10) (v := .agg H2) rfl (fun W => by go_simp) (Till.high (by rfl) BD.out) ?_
                refine Ph.takeP (i := 11) (v := .int .i64 4) rfl (fun W => by go_simp) (Till.high (by rfl) BD.out) ?_
                (try simp only [Act.put, List.getElem_toArray, List.getElem_cons_succ, List.getElem_cons_zero, List.setIfInBounds_toArray, List.set_cons_zero, List.set_cons_succ])
                refine Ph.ready (rs := [12]) (by kernel_rfl) (by simp) (All.cons rfl (fun K hK => ?_) (All.nil))
                go_simp
                obtain ⟨gt, hgt⟩ : ∃ G, vd4.heap.size = G := ⟨_, rfl⟩
                have Kt := Lib.hid (Blk.new' vd4 67 #[.int .i64 0, .int .i64 0, .int .i64 0, .int .i64 0, .int .i64 0, .int .i64 0, .int .u8 0, .int .u8 0, .int .u8 0, .int .u8 0, .int .u8 0, .int .u8 0, .int .u8 0, .int .u8 0, .int .u8 0, .int .u8 0, .int .u8 0, .int .u8 0, .int .u8 0, .int .u8 0, .int .u8 0, .int .u8 0] _ hgt rfl)
                have Lt := Lib.hid (show wc.heap.size ≤ gt from by rw [← hgt]; exact BD.out.size)
                have Nkt := Lib.hid (show gk < gt from by rw [← hgt]; exact Kk.out.lt)
                replace Kk := Lib.hid (Kk.out.alloc (.cells #[.int .i64 0, .int .i64 0, .int .i64 0, .int .i64 0, .int .i64 0, .int .i64 0, .int .u8 0, .int .u8 0, .int .u8 0, .int .u8 0, .int .u8 0, .int .u8 0, .int .u8 0, .int .u8 0, .int .u8 0, .int .u8 0, .int .u8 0, .int .u8 0, .int .u8 0, .int .u8 0, .int .u8 0, .int .u8 0] 67))
                replace BD := Lib.hid (BD.out.alloc BD.out.size (.cells #[.int .i64 0, .int .i64 0, .int .i64 0, .int .i64 0, .int .i64 0, .int .i64 0, .int .u8 0, .int .u8 0, .int .u8 0, .int .u8 0, .int .u8 0, .int .u8 0, .int .u8 0, .int .u8 0, .int .u8 0, .int .u8 0, .int .u8 0, .int .u8 0, .int .u8 0, .int .u8 0, .int .u8 0, .int .u8 0] 67))
                try rw [hgt]
                generalize hw2 : vd4.alloc (.cells #[.int .i64 0, .int .i64 0, .int .i64 0, .int .i64 0, .int .i64 0, .int .i64 0, .int .u8 0, .int .u8 0, .int .u8 0, .int .u8 0, .int .u8 0, .int .u8 0, .int .u8 0, .int .u8 0, .int .u8 0, .int .u8 0, .int .u8 0, .int .u8 0, .int .u8 0, .int .u8 0, .int .u8 0, .int .u8 0] 67) = vd5 at Kk Kt BD ⊢
                clear hw2 hgt
                refine hK _ _ (Till.high (by rfl) BD.out) (fun _ => ?_)
                clear hK K
                (try simp only [Act.put, List.getElem_toArray, List.getElem_cons_succ, List.getElem_cons_zero, List.setIfInBounds_toArray, List.set_cons_zero, List.set_cons_succ])
                refine Ph.ready (rs := [13]) (by kernel_rfl) (by simp) (All.cons rfl (fun K hK => ?_) (All.nil))
                rw [if_pos (by rfl)]
                refine wp_store_row 67 _ _ rfl (gt) 67 #[.int .i64 0, .int .i64 0, .int .i64 0, .int .i64 0, .int .i64 0, .int .i64 0, .int .u8 0, .int .u8 0, .int .u8 0, .int .u8 0, .int .u8 0, .int .u8 0, .int .u8 0, .int .u8 0, .int .u8 0, .int .u8 0, .int .u8 0, .int .u8 0, .int .u8 0, .int .u8 0, .int .u8 0, .int .u8 0] H2 rfl rfl (Blk.hs Kt.out) BV2.out.info (big_heldZ.same BV2.out) BV2.out.one rfl ?_
                replace Kt := Lib.hid (Kt.out.row_ H2)
                replace Kk := Lib.hid (Kk.out.rowfar (show gk ≠ gt by have := Nkt.out; omega) H2)
                replace BD := Lib.hid (below_setRow BD.out Lt.out H2)
                generalize hw2 : (vd5.setRow (gt) H2) = vd6 at Kk Kt BD ⊢
                clear hw2
                refine hK _ _ (Till.high (by rfl) BD.out) (fun _ => ?_)
                clear hK K
                refine Ph.takeP (i := 14) (v := .int .i64 4) rfl (fun W => by go_simp) (Till.high (by rfl) BD.out) ?_
                (try simp only [Act.put, List.getElem_toArray, List.getElem_cons_succ, List.getElem_cons_zero, List.setIfInBounds_toArray, List.set_cons_zero, List.set_cons_succ])
                refine Ph.done (by kernel_rfl) ?_ _
                go_wp2_with fail
                go_meet
                exact ⟨rfl, BD⟩
              · go_simp
                obtain ⟨gt, hgt⟩ : ∃ G, vd3.heap.size = G := ⟨_, rfl⟩
                have Kt := Lib.hid (Blk.new' vd3 67 #[.int .i64 0, .int .i64 0, .int .i64 0, .int .i64 0, .int .i64 0, .int .i64 0, .int .u8 0, .int .u8 0, .int .u8 0, .int .u8 0, .int .u8 0, .int .u8 0, .int .u8 0, .int .u8 0, .int .u8 0, .int .u8 0, .int .u8 0, .int .u8 0, .int .u8 0, .int .u8 0, .int .u8 0, .int .u8 0] _ hgt rfl)
                have Lt := Lib.hid (show wc.heap.size ≤ gt from by rw [← hgt]; exact BD.out.size)
                have Nkt := Lib.hid (show gk < gt from by rw [← hgt]; exact Kk.out.lt)
                replace Kk := Lib.hid (Kk.out.alloc (.cells #[.int .i64 0, .int .i64 0, .int .i64 0, .int .i64 0, .int .i64 0, .int .i64 0, .int .u8 0, .int .u8 0, .int .u8 0, .int .u8 0, .int .u8 0, .int .u8 0, .int .u8 0, .int .u8 0, .int .u8 0, .int .u8 0, .int .u8 0, .int .u8 0, .int .u8 0, .int .u8 0, .int .u8 0, .int .u8 0] 67))
                replace BD := Lib.hid (BD.out.alloc BD.out.size (.cells #[.int .i64 0, .int .i64 0, .int .i64 0, .int .i64 0, .int .i64 0, .int .i64 0, .int .u8 0, .int .u8 0, .int .u8 0, .int .u8 0, .int .u8 0, .int .u8 0, .int .u8 0, .int .u8 0, .int .u8 0, .int .u8 0, .int .u8 0, .int .u8 0, .int .u8 0, .int .u8 0, .int .u8 0, .int .u8 0] 67))
                try rw [hgt]
                generalize hw2 : vd3.alloc (.cells #[.int .i64 0, .int .i64 0, .int .i64 0, .int .i64 0, .int .i64 0, .int .i64 0, .int .u8 0, .int .u8 0, .int .u8 0, .int .u8 0, .int .u8 0, .int .u8 0, .int .u8 0, .int .u8 0, .int .u8 0, .int .u8 0, .int .u8 0, .int .u8 0, .int .u8 0, .int .u8 0, .int .u8 0, .int .u8 0] 67) = vd7 at Kk Kt BD ⊢
                clear hw2 hgt
                refine hK _ _ (Till.low trivial BD.out) (fun _ => ?_)
                clear hK K
                (try simp only [Act.put, List.getElem_toArray, List.getElem_cons_succ, List.getElem_cons_zero, List.setIfInBounds_toArray, List.set_cons_zero, List.set_cons_succ])
                refine Ph.ready (rs := [8]) (by kernel_rfl) (by simp) (All.cons rfl (fun K hK => ?_) (All.nil))
                go_simp
                refine (TK2.out HL0.out _ _ _ (ring_of Kk.out) (HLA.out.below (bt B.out BD.out))).mono ?_
                rintro e vd8 ⟨rfl, hb⟩
                replace Kk := Lib.hid (Kk.out.below hb Kk.out.lt)
                replace Kt := Lib.hid (Kt.out.below hb Kt.out.lt)
                replace BD := Lib.hid (bt BD.out hb)
                clear hb
                go_wp2_with fail
                refine hK _ _ (Till.high (by rfl) BD.out) (fun _ => ?_)
                clear hK K
                refine Ph.takeP (i := 9) (v := .tuple #[.agg H2, .int .i64 4]) rfl (fun W => by go_simp) (Till.high (by rfl) BD.out) ?_
                refine Ph.takeP (i := 10) (v := .agg H2) rfl (fun W => by go_simp) (Till.high (by rfl) BD.out) ?_
                refine Ph.takeP (i := 11) (v := .int .i64 4) rfl (fun W => by go_simp) (Till.high (by rfl) BD.out) ?_
                (try simp only [Act.put, List.getElem_toArray, List.getElem_cons_succ, List.getElem_cons_zero, List.setIfInBounds_toArray, List.set_cons_zero, List.set_cons_succ])
                refine Ph.ready (rs := [13]) (by kernel_rfl) (by simp) (All.cons rfl (fun K hK => ?_) (All.nil))
                rw [if_pos (by rfl)]
                refine wp_store_row 67 _ _ rfl (gt) 67 #[.int .i64 0, .int .i64 0, .int .i64 0, .int .i64 0, .int .i64 0, .int .i64 0, .int .u8 0, .int .u8 0, .int .u8 0, .int .u8 0, .int .u8 0, .int .u8 0, .int .u8 0, .int .u8 0, .int .u8 0, .int .u8 0, .int .u8 0, .int .u8 0, .int .u8 0, .int .u8 0, .int .u8 0, .int .u8 0] H2 rfl rfl (Blk.hs Kt.out) BV2.out.info (big_heldZ.same BV2.out) BV2.out.one rfl ?_
                replace Kt := Lib.hid (Kt.out.row_ H2)
                replace Kk := Lib.hid (Kk.out.rowfar (show gk ≠ gt by have := Nkt.out; omega) H2)
                replace BD := Lib.hid (below_setRow BD.out Lt.out H2)
                generalize hw2 : (vd8.setRow (gt) H2) = vd9 at Kk Kt BD ⊢
                clear hw2
                refine hK _ _ (Till.high (by rfl) BD.out) (fun _ => ?_)
                clear hK K
                refine Ph.takeP (i := 14) (v := .int .i64 4) rfl (fun W => by go_simp) (Till.high (by rfl) BD.out) ?_
                (try simp only [Act.put, List.getElem_toArray, List.getElem_cons_succ, List.getElem_cons_zero, List.setIfInBounds_toArray, List.set_cons_zero, List.set_cons_succ])
                refine Ph.done (by kernel_rfl) ?_ _
                go_wp2_with fail
                go_meet
                exact ⟨rfl, BD⟩
            · go_simp
              obtain ⟨gt, hgt⟩ : ∃ G, vd2.heap.size = G := ⟨_, rfl⟩
              have Kt := Lib.hid (Blk.new' vd2 67 #[.int .i64 0, .int .i64 0, .int .i64 0, .int .i64 0, .int .i64 0, .int .i64 0, .int .u8 0, .int .u8 0, .int .u8 0, .int .u8 0, .int .u8 0, .int .u8 0, .int .u8 0, .int .u8 0, .int .u8 0, .int .u8 0, .int .u8 0, .int .u8 0, .int .u8 0, .int .u8 0, .int .u8 0, .int .u8 0] _ hgt rfl)
              have Lt := Lib.hid (show wc.heap.size ≤ gt from by rw [← hgt]; exact BD.out.size)
              replace BD := Lib.hid (BD.out.alloc BD.out.size (.cells #[.int .i64 0, .int .i64 0, .int .i64 0, .int .i64 0, .int .i64 0, .int .i64 0, .int .u8 0, .int .u8 0, .int .u8 0, .int .u8 0, .int .u8 0, .int .u8 0, .int .u8 0, .int .u8 0, .int .u8 0, .int .u8 0, .int .u8 0, .int .u8 0, .int .u8 0, .int .u8 0, .int .u8 0, .int .u8 0] 67))
              try rw [hgt]
              generalize hw2 : vd2.alloc (.cells #[.int .i64 0, .int .i64 0, .int .i64 0, .int .i64 0, .int .i64 0, .int .i64 0, .int .u8 0, .int .u8 0, .int .u8 0, .int .u8 0, .int .u8 0, .int .u8 0, .int .u8 0, .int .u8 0, .int .u8 0, .int .u8 0, .int .u8 0, .int .u8 0, .int .u8 0, .int .u8 0, .int .u8 0, .int .u8 0] 67) = vd10 at Kt BD ⊢
              clear hw2 hgt
              refine hK _ _ (Till.low trivial BD.out) (fun _ => ?_)
              clear hK K
              (try simp only [Act.put, List.getElem_toArray, List.getElem_cons_succ, List.getElem_cons_zero, List.setIfInBounds_toArray, List.set_cons_zero, List.set_cons_succ])
              refine Ph.ready (rs := [1]) (by kernel_rfl) (by simp) (All.cons rfl (fun K hK => ?_) (All.nil))
              go_simp
              obtain ⟨gk, hgk⟩ : ∃ G, vd10.heap.size = G := ⟨_, rfl⟩
              have Kk := Lib.hid (Blk.new' vd10 26 #[.int .i64 1, .int .i64 1, .string kS, .int .i64 0, .int .i64 1099511627776] _ hgk rfl)
              have Lk := Lib.hid (show wc.heap.size ≤ gk from by rw [← hgk]; exact BD.out.size)
              have Ntk := Lib.hid (show gt < gk from by rw [← hgk]; exact Kt.out.lt)
              replace Kt := Lib.hid (Kt.out.alloc (.cells #[.int .i64 1, .int .i64 1, .string kS, .int .i64 0, .int .i64 1099511627776] 26))
              replace BD := Lib.hid (BD.out.alloc BD.out.size (.cells #[.int .i64 1, .int .i64 1, .string kS, .int .i64 0, .int .i64 1099511627776] 26))
              try rw [hgk]
              generalize hw2 : vd10.alloc (.cells #[.int .i64 1, .int .i64 1, .string kS, .int .i64 0, .int .i64 1099511627776] 26) = vd11 at Kt Kk BD ⊢
              clear hw2 hgk
              refine hK _ _ (Till.low trivial BD.out) (fun _ => ?_)
              clear hK K
              (try simp only [Act.put, List.getElem_toArray, List.getElem_cons_succ, List.getElem_cons_zero, List.setIfInBounds_toArray, List.set_cons_zero, List.set_cons_succ])
              refine Ph.ready (rs := [8]) (by kernel_rfl) (by simp) (All.cons rfl (fun K hK => ?_) (All.nil))
              go_simp
              refine (TK2.out HL0.out _ _ _ (ring_of Kk.out) (HLA.out.below (bt B.out BD.out))).mono ?_
              rintro e vd12 ⟨rfl, hb⟩
              replace Kt := Lib.hid (Kt.out.below hb Kt.out.lt)
              replace Kk := Lib.hid (Kk.out.below hb Kk.out.lt)
              replace BD := Lib.hid (bt BD.out hb)
              clear hb
              go_wp2_with fail
              refine hK _ _ (Till.high (by rfl) BD.out) (fun _ => ?_)
              clear hK K
              refine Ph.takeP (i := 9) (v := .tuple #[.agg H2, .int .i64 4]) rfl (fun W => by go_simp) (Till.high (by rfl) BD.out) ?_
              refine Ph.takeP (i := 10) (v := .agg H2) rfl (fun W => by go_simp) (Till.high (by rfl) BD.out) ?_
              refine Ph.takeP (i := 11) (v := .int .i64 4) rfl (fun W => by go_simp) (Till.high (by rfl) BD.out) ?_
              (try simp only [Act.put, List.getElem_toArray, List.getElem_cons_succ, List.getElem_cons_zero, List.setIfInBounds_toArray, List.set_cons_zero, List.set_cons_succ])
              refine Ph.ready (rs := [13]) (by kernel_rfl) (by simp) (All.cons rfl (fun K hK => ?_) (All.nil))
              rw [if_pos (by rfl)]
              refine wp_store_row 67 _ _ rfl (gt) 67 #[.int .i64 0, .int .i64 0, .int .i64 0, .int .i64 0, .int .i64 0, .int .i64 0, .int .u8 0, .int .u8 0, .int .u8 0, .int .u8 0, .int .u8 0, .int .u8 0, .int .u8 0, .int .u8 0, .int .u8 0, .int .u8 0, .int .u8 0, .int .u8 0, .int .u8 0, .int .u8 0, .int .u8 0, .int .u8 0] H2 rfl rfl (Blk.hs Kt.out) BV2.out.info (big_heldZ.same BV2.out) BV2.out.one rfl ?_
              replace Kt := Lib.hid (Kt.out.row_ H2)
              replace Kk := Lib.hid (Kk.out.rowfar (show gk ≠ gt by have := Ntk.out; omega) H2)
              replace BD := Lib.hid (below_setRow BD.out Lt.out H2)
              generalize hw2 : (vd12.setRow (gt) H2) = vd13 at Kt Kk BD ⊢
              clear hw2
              refine hK _ _ (Till.high (by rfl) BD.out) (fun _ => ?_)
              clear hK K
              refine Ph.takeP (i := 14) (v := .int .i64 4) rfl (fun W => by go_simp) (Till.high (by rfl) BD.out) ?_
              (try simp only [Act.put, List.getElem_toArray, List.getElem_cons_succ, List.getElem_cons_zero, List.setIfInBounds_toArray, List.set_cons_zero, List.set_cons_succ])
              refine Ph.done (by kernel_rfl) ?_ _
              go_wp2_with fail
              go_meet
              exact ⟨rfl, BD⟩
          · go_simp
            obtain ⟨gt, hgt⟩ : ∃ G, vd1.heap.size = G := ⟨_, rfl⟩
            have Kt := Lib.hid (Blk.new' vd1 67 #[.int .i64 0, .int .i64 0, .int .i64 0, .int .i64 0, .int .i64 0, .int .i64 0, .int .u8 0, .int .u8 0, .int .u8 0, .int .u8 0, .int .u8 0, .int .u8 0, .int .u8 0, .int .u8 0, .int .u8 0, .int .u8 0, .int .u8 0, .int .u8 0, .int .u8 0, .int .u8 0, .int .u8 0, .int .u8 0] _ hgt rfl)
            have Lt := Lib.hid (show wc.heap.size ≤ gt from by rw [← hgt]; exact BD.out.size)
            replace BD := Lib.hid (BD.out.alloc BD.out.size (.cells #[.int .i64 0, .int .i64 0, .int .i64 0, .int .i64 0, .int .i64 0, .int .i64 0, .int .u8 0, .int .u8 0, .int .u8 0, .int .u8 0, .int .u8 0, .int .u8 0, .int .u8 0, .int .u8 0, .int .u8 0, .int .u8 0, .int .u8 0, .int .u8 0, .int .u8 0, .int .u8 0, .int .u8 0, .int .u8 0] 67))
            try rw [hgt]
            generalize hw2 : vd1.alloc (.cells #[.int .i64 0, .int .i64 0, .int .i64 0, .int .i64 0, .int .i64 0, .int .i64 0, .int .u8 0, .int .u8 0, .int .u8 0, .int .u8 0, .int .u8 0, .int .u8 0, .int .u8 0, .int .u8 0, .int .u8 0, .int .u8 0, .int .u8 0, .int .u8 0, .int .u8 0, .int .u8 0, .int .u8 0, .int .u8 0] 67) = vd14 at Kt BD ⊢
            clear hw2 hgt
            refine hK _ _ (Till.low trivial BD.out) (fun _ => ?_)
            clear hK K
            (try simp only [Act.put, List.getElem_toArray, List.getElem_cons_succ, List.getElem_cons_zero, List.setIfInBounds_toArray, List.set_cons_zero, List.set_cons_succ])
            refine Ph.ready (rs := [0]) (by kernel_rfl) (by simp) (All.cons rfl (fun K hK => ?_) (All.nil))
            go_simp
            refine (sn_key _).mono ?_
            rintro e vd15 ⟨rfl, hb⟩
            replace Kt := Lib.hid (Kt.out.below hb Kt.out.lt)
            replace BD := Lib.hid (bt BD.out hb)
            clear hb
            go_wp2_with fail
            refine hK _ _ (Till.low trivial BD.out) (fun _ => ?_)
            clear hK K
            (try simp only [Act.put, List.getElem_toArray, List.getElem_cons_succ, List.getElem_cons_zero, List.setIfInBounds_toArray, List.set_cons_zero, List.set_cons_succ])
            refine Ph.ready (rs := [1]) (by kernel_rfl) (by simp) (All.cons rfl (fun K hK => ?_) (All.nil))
            go_simp
            obtain ⟨gk, hgk⟩ : ∃ G, vd15.heap.size = G := ⟨_, rfl⟩
            have Kk := Lib.hid (Blk.new' vd15 26 #[.int .i64 1, .int .i64 1, .string kS, .int .i64 0, .int .i64 1099511627776] _ hgk rfl)
            have Lk := Lib.hid (show wc.heap.size ≤ gk from by rw [← hgk]; exact BD.out.size)
            have Ntk := Lib.hid (show gt < gk from by rw [← hgk]; exact Kt.out.lt)
            replace Kt := Lib.hid (Kt.out.alloc (.cells #[.int .i64 1, .int .i64 1, .string kS, .int .i64 0, .int .i64 1099511627776] 26))
            replace BD := Lib.hid (BD.out.alloc BD.out.size (.cells #[.int .i64 1, .int .i64 1, .string kS, .int .i64 0, .int .i64 1099511627776] 26))
            try rw [hgk]
            generalize hw2 : vd15.alloc (.cells #[.int .i64 1, .int .i64 1, .string kS, .int .i64 0, .int .i64 1099511627776] 26) = vd16 at Kt Kk BD ⊢
            clear hw2 hgk
            refine hK _ _ (Till.low trivial BD.out) (fun _ => ?_)
            clear hK K
            (try simp only [Act.put, List.getElem_toArray, List.getElem_cons_succ, List.getElem_cons_zero, List.setIfInBounds_toArray, List.set_cons_zero, List.set_cons_succ])
            refine Ph.ready (rs := [8]) (by kernel_rfl) (by simp) (All.cons rfl (fun K hK => ?_) (All.nil))
            go_simp
            refine (TK2.out HL0.out _ _ _ (ring_of Kk.out) (HLA.out.below (bt B.out BD.out))).mono ?_
            rintro e vd17 ⟨rfl, hb⟩
            replace Kt := Lib.hid (Kt.out.below hb Kt.out.lt)
            replace Kk := Lib.hid (Kk.out.below hb Kk.out.lt)
            replace BD := Lib.hid (bt BD.out hb)
            clear hb
            go_wp2_with fail
            refine hK _ _ (Till.high (by rfl) BD.out) (fun _ => ?_)
            clear hK K
            refine Ph.takeP (i := 9) (v := .tuple #[.agg H2, .int .i64 4]) rfl (fun W => by go_simp) (Till.high (by rfl) BD.out) ?_
            refine Ph.takeP (i := 10) (v := .agg H2) rfl (fun W => by go_simp) (Till.high (by rfl) BD.out) ?_
            refine Ph.takeP (i := 11) (v := .int .i64 4) rfl (fun W => by go_simp) (Till.high (by rfl) BD.out) ?_
            (try simp only [Act.put, List.getElem_toArray, List.getElem_cons_succ, List.getElem_cons_zero, List.setIfInBounds_toArray, List.set_cons_zero, List.set_cons_succ])
            refine Ph.ready (rs := [13]) (by kernel_rfl) (by simp) (All.cons rfl (fun K hK => ?_) (All.nil))
            rw [if_pos (by rfl)]
            refine wp_store_row 67 _ _ rfl (gt) 67 #[.int .i64 0, .int .i64 0, .int .i64 0, .int .i64 0, .int .i64 0, .int .i64 0, .int .u8 0, .int .u8 0, .int .u8 0, .int .u8 0, .int .u8 0, .int .u8 0, .int .u8 0, .int .u8 0, .int .u8 0, .int .u8 0, .int .u8 0, .int .u8 0, .int .u8 0, .int .u8 0, .int .u8 0, .int .u8 0] H2 rfl rfl (Blk.hs Kt.out) BV2.out.info (big_heldZ.same BV2.out) BV2.out.one rfl ?_
            replace Kt := Lib.hid (Kt.out.row_ H2)
            replace Kk := Lib.hid (Kk.out.rowfar (show gk ≠ gt by have := Ntk.out; omega) H2)
            replace BD := Lib.hid (below_setRow BD.out Lt.out H2)
            generalize hw2 : (vd17.setRow (gt) H2) = vd18 at Kt Kk BD ⊢
            clear hw2
            refine hK _ _ (Till.high (by rfl) BD.out) (fun _ => ?_)
            clear hK K
            refine Ph.takeP (i := 14) (v := .int .i64 4) rfl (fun W => by go_simp) (Till.high (by rfl) BD.out) ?_
            (try simp only [Act.put, List.getElem_toArray, List.getElem_cons_succ, List.getElem_cons_zero, List.setIfInBounds_toArray, List.set_cons_zero, List.set_cons_succ])
            refine Ph.done (by kernel_rfl) ?_ _
            go_wp2_with fail
            go_meet
            exact ⟨rfl, BD⟩
        obtain ⟨rfl, XB⟩ := hcut
        have hb := XB.out
        clear XB
        replace Kg := Lib.hid (Kg.out.below hb Kg.out.lt)
        replace Kp := Lib.hid (Kp.out.below hb Kp.out.lt)
        replace Kc := Lib.hid (Kc.out.below hb Kc.out.lt)
        replace Kd := Lib.hid (Kd.out.below hb Kd.out.lt)
        replace Km := Lib.hid (Km.out.below hb Km.out.lt)
        replace Ks := Lib.hid (Ks.out.below hb Ks.out.lt)
        replace B := Lib.hid (B.out.trans (hb.mono B.out.size))
        clear hb
        go_wp2_with fail
        refine (SNT.out _ (HLA.out.below B.out)).mono ?_
        rintro e w99 ⟨rfl, hb⟩
        replace B := Lib.hid (B.out.trans (hb.mono B.out.size))
        go_wp2
        go_ret
        exact ⟨rfl, B.out⟩
end Le
end Go.Proofs.YteblnmhaohbkkaaDoor
