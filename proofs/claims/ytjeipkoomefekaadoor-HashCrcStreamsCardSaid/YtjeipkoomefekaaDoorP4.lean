/- The law HashCrcStreams, walked. -/
import Derived.Test.YtjeipkoomefekaaDoorAA
namespace Go.Proofs.YtjeipkoomefekaaDoor
set_option linter.unusedVariables false
set_option linter.unusedSimpArgs false
open Go.RowKit
set_option maxRecDepth 100000 in
set_option maxHeartbeats 1000000 in
theorem crcStreams (a : Option Addr) (cap : Nat) (ss : List ByteArray) (t : ByteArray) (A : Nat) (w : World) (hp : StrsA w a ss) (hca : ss.length ≤ cap) (hcm : cap ≤ 9223372036854775807) (hcn : a = none → cap = 0) (hz : ∀ s ∈ ss, s.size ≤ 9223372036854775807) (ht : t.size ≤ 9223372036854775807) (hA : A < 256) (hla : LaidC w) :
    Calls Tryd.prog 4 #[.slice a ss.length cap, .string t, .int .u8 A] w fun e w' => e = .returned (.bool true) ∧ Below w.heap.size w w' := by
  have LA := Lib.hid hla
  have HP := Lib.hid hp
  have FW := Lib.hid (fun (W : World) (h : StrsA W a ss) => few_any a cap ss W h (by omega) hz)
  by_cases hF0 : ¬ Few ss
  · obtain ⟨n, hn⟩ : ∃ n, ss.length = n := ⟨_, rfl⟩
    rw [hn] at FW hca ⊢
    clear hp hla hn hz
    go_enter Tryd.func4, Tryd.ntmps4
    go_wp2_with fail
    refine (sane _ LA.out).mono ?_
    rintro e w1 ⟨rfl, hb1⟩
    have B1 := Lib.hid hb1
    clear hb1
    go_wp2_with fail
    refine (FW.out _ (HP.out.mono B1.out)).mono ?_
    rintro e w2 ⟨⟨f, rfl, hf⟩, rfl⟩
    obtain rfl : f = false := by cases f; rfl; exact absurd (hf.1 rfl) hF0
    clear hf
    go_wp2
    go_ret
    exact ⟨rfl, B1.out⟩
  have hF : Few ss := Classical.byContradiction hF0
  clear hF0
  by_cases h4 : 400 < t.size
  · obtain ⟨n, hn⟩ : ∃ n, ss.length = n := ⟨_, rfl⟩
    rw [hn] at FW hca ⊢
    clear hp hla hn hz
    go_enter Tryd.func4, Tryd.ntmps4
    go_wp2_with fail
    refine (sane _ LA.out).mono ?_
    rintro e w1 ⟨rfl, hb1⟩
    have B1 := Lib.hid hb1
    clear hb1
    go_wp2_with fail
    refine (FW.out _ (HP.out.mono B1.out)).mono ?_
    rintro e w2 ⟨⟨f, rfl, hf⟩, rfl⟩
    obtain rfl : f = true := hf.2 hF
    clear hf
    go_wp2
    go_ret
    exact ⟨rfl, B1.out⟩
  obtain ⟨n, hn⟩ : ∃ n, ss.length = n := ⟨_, rfl⟩
  have n12 : n ≤ 12 := by have := hF.1; omega
  obtain ⟨N, hN⟩ : ∃ N, n + 1 = N := ⟨_, rfl⟩
  have e1 : (n : Int) + 1 = (N : Int) := by omega
  have N1 : 0 < N := by omega
  have N13 : N ≤ 13 := by omega
  obtain ⟨C, hC⟩ : ∃ S, A % N = S := ⟨_, rfl⟩
  have Cn : C ≤ n := by have := Nat.mod_lt A N1; omega
  have eC : (A : Int) % (N : Int) = (C : Int) := by rw [← hC]; simp
  have eC2 : (A : Int).tmod (N : Int) = (C : Int) := by rw [Int.tmod_eq_emod_of_nonneg (by omega)]; exact eC
  have Nz : ((N : Int) == 0) = false := beq_eq_false_iff_ne.2 (by omega)
  have wC : IntKind.i64.wrap (C : Int) = (C : Int) := by rw [IntKind.wrap_i64]; omega
  have HE := Lib.hid hn
  have HF := Lib.hid hF
  have CA := Lib.hid (fun (r : Nat) (k : Nat) (hk : k < n) (W : World) (hr : r < 1099511627776) (h2 : LaidC W) => crcadd_any r (ss.getD k ByteArray.empty) (sb (ss.getD k ByteArray.empty)) W hr rfl (by rw [sb_len]; have := hF.2 _ (mem_getD (show k < ss.length by omega)); omega) h2)
  have HT := Lib.hid hca
  simp only [hn] at FW
  rw [hn]
  rw [hn] at hca
  clear hp hla hn hz hN hC
  go_enter Tryd.func4, Tryd.ntmps4
  go_wp2_with fail
  refine (sane _ LA.out).mono ?_
  rintro e w1 ⟨rfl, hb1⟩
  have B1 := Lib.hid (show Below w.heap.size w w1 from hb1)
  clear hb1
  go_wp2_with fail
  refine (FW.out _ (HP.out.mono B1.out)).mono ?_
  rintro e w2 ⟨⟨f, rfl, hf⟩, rfl⟩
  obtain rfl : f = true := hf.2 HF.out
  clear hf FW hF
  go_wp2_with fail
  refine (crcbegin_any _).mono ?_
  rintro e w2 ⟨rfl, hb2⟩
  have B2 := Lib.hid (bt B1.out hb2)
  clear hb2 B1
  -- the loops
  have K3 := Lib.hid (Blk.new w2 30 #[.int .u64 ((1099511627775 : Nat) : Int)])
  have B3 := Lib.hid (B2.out.alloc B2.out.size (.cells #[.int .u64 ((1099511627775 : Nat) : Int)] 30))
  obtain ⟨G, hG⟩ : ∃ G, w2.heap.size = G := ⟨_, rfl⟩
  have GW := Lib.hid (show w.heap.size ≤ G by rw [← hG]; exact B2.out.size)
  rw [hG] at K3
  go_wp2
  clear B2 hG
  go_loopw [10] (fun ui wr => ∃ (k r : Nat), k ≤ C ∧ ui = .int .i64 k ∧ r < 1099511627776 ∧ Hid (run 1099511627775 (catS (ss.take k)) = r) ∧ Hid (Blk wr G 30 #[.int .u64 r]) ∧ Hid (Below w.heap.size w wr)) (fun ui _ => C - (intOf ui).toNat)
  case atStart => exact ⟨0, 1099511627775, by omega, rfl, by decide, Lib.hid rfl, K3, B3⟩
  case round =>
    obtain ⟨k, r, hk, rfl, hr, hrun, hK, hbe⟩ := hrel
    by_cases hlt : k < C
    · have hkn : k < n := by omega
      obtain ⟨b, off, rfl, q1⟩ := HP.out.mono hbe.out k (by rw [HE.out]; exact hkn)
      have hc := catS_take ss k (by rw [HE.out]; exact hkn)
      have ca := CA.out r k hkn
      have hnx : run 1099511627775 (catS (ss.take (k + 1))) = run r (sb (ss.getD k ByteArray.empty)) := by rw [hc, run_append, hrun.out]
      have zlt := run_lt (sb (ss.getD k ByteArray.empty)) r hr
      obtain ⟨u, hu⟩ : ∃ m, ss.getD k ByteArray.empty = m := ⟨_, rfl⟩
      rw [hu] at q1 hnx zlt; simp only [hu] at ca
      obtain ⟨z, hz⟩ : ∃ m, run r (sb u) = m := ⟨_, rfl⟩
      rw [hz] at hnx zlt; simp only [hz] at ca
      have NX := Lib.hid hnx; have CB := Lib.hid ca
      have d0 := hK.out.cell 0
      have f0 := hK.out.frozen 0
      have d1 : wr.cell? ⟨G, 0, none⟩ = some (.int .u64 (r : Int)) := d0
      have wk : IntKind.i64.wrap (k : Int) = (k : Int) := by rw [IntKind.wrap_i64]; omega
      clear hc hnx hu hz ca d0 hrun
      go_wp2
      refine wp_region_still_tail 5 (by kernel_rfl) (by kernel_rfl) ?_
      simp only [List.take_succ_cons, List.take_zero, List.drop_succ_cons, List.drop_zero]
      show wpStill _ _ (World.drew _) _ _ _
      repeat still_step
      refine wpStill_nil ?_
      show wpList _ _ _ _ _ (World.drew _)
      go_wp2_with fail
      refine (CB.out _ hr (LA.out.mono (Below.drew hbe.out))).mono ?_
      rintro e w5 ⟨rfl, hb5⟩
      have K6 := Lib.hid (hK.out.drew.below hb5 hK.out.drew.lt)
      have B6 := Lib.hid ((Below.drew hbe.out).trans (hb5.mono (by have := hbe.out.size; simpa using this)))
      have d6 : w5.cell? ⟨G, 0, none⟩ = some (.int .u64 (r : Int)) := K6.out.cell 0
      have f6 := K6.out.frozen 0
      clear hb5 hbe hK d1 f0
      go_wp2
      go_roundw
      case rel =>
        refine ⟨k + 1, z, by omega, by go_num, zlt, NX, Lib.hid (K6.out.set_ 0 _), Lib.hid ?_⟩
        have := B6.out; have := GW.out; (repeat' (first | (with_reducible exact Below.refl _ _) | (with_reducible assumption) | (with_reducible refine Below.alloc ?_ ?_ _) | (with_reducible refine Below.drew ?_) | (with_reducible refine below_dn ?_) | (with_reducible refine Below.setCell ?_ ?_ _) | (with_reducible exact Nat.le_refl _) | omega | (simp only [World.size_alloc, World.size_setCell, World.size_drew]; omega) | (simp; omega) | (simp; done)))
      case measure => simp [intOf]; omega
    · obtain rfl : C = k := by omega
      have hRC : r < 1099511627776 := hr
      have hrunC := hrun
      have d0 : wr.cell? ⟨G, 0, none⟩ = some (.int .u64 (r : Int)) := hK.out.cell 0
      have f0 := hK.out.frozen 0
      have K4 := Lib.hid (hK.out.alloc (.cells #[.int .u64 (r : Int)] 30))
      have K5 := Lib.hid (Blk.new wr 30 #[.int .u64 (r : Int)])
      have B4 := Lib.hid (hbe.out.alloc hbe.out.size (.cells #[.int .u64 (r : Int)] 30))
      have g12 : G < wr.heap.size := hK.out.lt
      obtain ⟨G2, hG2⟩ : ∃ G, wr.heap.size = G := ⟨_, rfl⟩
      rw [hG2] at K5 g12
      clear hrun hK hbe
      go_wp2
      clear d0 f0 hG2
      obtain ⟨r0, hr0⟩ : ∃ m, r = m := ⟨_, rfl⟩
      rw [hr0] at hRC hrunC K4 K5 B4
      simp only [hr0]
      clear hr0 hr r
      go_loopw [12] (fun ui wr => ∃ (k r : Nat), k ≤ n ∧ ui = .int .i64 k ∧ r < 1099511627776 ∧ Hid (run 1099511627775 (catS (ss.take k)) = r) ∧ Hid (Blk wr G 30 #[.int .u64 r]) ∧ Hid (Below w.heap.size w wr) ∧ Hid (Blk wr G2 30 #[.int .u64 r0])) (fun ui _ => n - (intOf ui).toNat)
      case atStart => exact ⟨C, r0, Cn, rfl, hRC, hrunC, K4, B4, K5⟩
      case round =>
        obtain ⟨k, r, hk, rfl, hr, hrun, hK, hbe, hK2⟩ := hrel
        by_cases hlt : k < n
        · have hkn : k < n := by omega
          obtain ⟨b, off, rfl, q1⟩ := HP.out.mono hbe.out k (by rw [HE.out]; exact hkn)
          have hc := catS_take ss k (by rw [HE.out]; exact hkn)
          have ca := CA.out r k hkn
          have hnx : run 1099511627775 (catS (ss.take (k + 1))) = run r (sb (ss.getD k ByteArray.empty)) := by rw [hc, run_append, hrun.out]
          have zlt := run_lt (sb (ss.getD k ByteArray.empty)) r hr
          obtain ⟨u, hu⟩ : ∃ m, ss.getD k ByteArray.empty = m := ⟨_, rfl⟩
          rw [hu] at q1 hnx zlt; simp only [hu] at ca
          obtain ⟨z, hz⟩ : ∃ m, run r (sb u) = m := ⟨_, rfl⟩
          rw [hz] at hnx zlt; simp only [hz] at ca
          have NX := Lib.hid hnx; have CB := Lib.hid ca
          have d0 := hK.out.cell 0
          have f0 := hK.out.frozen 0
          have d1 : wr.cell? ⟨G, 0, none⟩ = some (.int .u64 (r : Int)) := d0
          have wk : IntKind.i64.wrap (k : Int) = (k : Int) := by rw [IntKind.wrap_i64]; omega
          clear hc hnx hu hz ca d0 hrun
          go_wp2
          refine wp_region_still_tail 5 (by kernel_rfl) (by kernel_rfl) ?_
          simp only [List.take_succ_cons, List.take_zero, List.drop_succ_cons, List.drop_zero]
          show wpStill _ _ (World.drew _) _ _ _
          repeat still_step
          refine wpStill_nil ?_
          show wpList _ _ _ _ _ (World.drew _)
          go_wp2_with fail
          refine (CB.out _ hr (LA.out.mono (Below.drew hbe.out))).mono ?_
          rintro e w5 ⟨rfl, hb5⟩
          have K6 := Lib.hid (hK.out.drew.below hb5 hK.out.drew.lt)
          have B6 := Lib.hid ((Below.drew hbe.out).trans (hb5.mono (by have := hbe.out.size; simpa using this)))
          have d6 : w5.cell? ⟨G, 0, none⟩ = some (.int .u64 (r : Int)) := K6.out.cell 0
          have f6 := K6.out.frozen 0
          have K7 := Lib.hid (hK2.out.drew.below hb5 hK2.out.drew.lt)
          clear hb5 hbe hK d1 f0
          go_wp2
          go_roundw
          case rel =>
            refine ⟨k + 1, z, by omega, by go_num, zlt, NX, Lib.hid (K6.out.set_ 0 _), Lib.hid ?_, Lib.hid (K7.out.far (by simp; omega) _)⟩
            have := B6.out; have := GW.out; (repeat' (first | (with_reducible exact Below.refl _ _) | (with_reducible assumption) | (with_reducible refine Below.alloc ?_ ?_ _) | (with_reducible refine Below.drew ?_) | (with_reducible refine below_dn ?_) | (with_reducible refine Below.setCell ?_ ?_ _) | (with_reducible exact Nat.le_refl _) | omega | (simp only [World.size_alloc, World.size_setCell, World.size_drew]; omega) | (simp; omega) | (simp; done)))
          case measure => simp [intOf]; omega
        · obtain rfl : n = k := by omega
          have e0 : catS (ss.take n) = catS ss := by rw [List.take_of_length_le (by rw [HE.out]; omega)]
          rw [e0] at hrun
          have GF := Lib.hid hK; have GF2 := Lib.hid hK2
          clear e0 hlt hk
          have lC : (ss.take C).length = C := by rw [List.length_take, HE.out]; omega
          have FC : Few (ss.take C) := ⟨by omega, fun s hs => HF.out.2 s (List.mem_of_mem_take hs)⟩
          have z1 : (catS ss).length ≤ 4800 := by have := catS_len ss HF.out.2; have := HF.out.1; omega
          have z2 : (catS (ss.take C)).length ≤ 4800 := by have := catS_len (ss.take C) FC.2; have := FC.1; omega
          have J1 := Lib.hid (fun (W : World) (h : StrsA W a ss) => by have := joined_any a cap ss W h HF.out; rw [HE.out] at this; exact this)
          have J2 := Lib.hid (fun (W : World) (h : StrsA W a ss) => by have := joined_any a cap (ss.take C) W (h.take C) FC; rw [lC] at this; exact this)
          have SLI := fun (W : World) => slice_hi W a n cap C (by omega) hcm hcn
          have l1 := catS_lt ss; have l2 := catS_lt (ss.take C)
          have hcrunC := hrunC.out
          obtain ⟨M1, hM1⟩ : ∃ m, catS ss = m := ⟨_, rfl⟩
          obtain ⟨M2, hM2⟩ : ∃ m, catS (ss.take C) = m := ⟨_, rfl⟩
          rw [hM1] at z1 l1 hrun; rw [hM2] at z2 l2 hcrunC
          simp only [hM1] at J1; simp only [hM2] at J2
          have l3 : ∀ x ∈ M2 ++ sb t, x < 256 := fun x hx => by
            rcases List.mem_append.1 hx with h | h
            · exact l2 x h
            · exact sb_lt t x h
          have st := sb_len t
          have z3 : (M2 ++ sb t).length ≤ 5200 := by rw [List.length_append]; omega
          have ADD := Lib.hid (crcadd_any r0 t (sb t) · hRC rfl (by omega) ·)
          have zl := run_lt (sb t) r0 hRC
          have r3 : run 1099511627775 (M2 ++ sb t) = run r0 (sb t) := by rw [run_append, hcrunC]
          have hcat : strB M2 ++ t = strB (M2 ++ sb t) := by rw [← strB_app, strB_sb]
          obtain ⟨M3, hM3⟩ : ∃ m, M2 ++ sb t = m := ⟨_, rfl⟩
          rw [hM3] at l3 z3 r3 hcat
          obtain ⟨R3, hR3⟩ : ∃ m, run r0 (sb t) = m := ⟨_, rfl⟩
          rw [hR3] at zl r3; simp only [hR3] at ADD
          obtain ⟨Ga, Oa, hOa⟩ := str_conv M1 l1
          obtain ⟨Gb, Ob, hOb⟩ := str_conv M2 l2
          obtain ⟨Gc, Oc, hOc⟩ := str_conv M3 l3
          have Sa := fun W => (hOa W).1; have Sb := fun W => (hOb W).1; have Sc := fun W => (hOc W).1
          have Va := Lib.hid (fun W => (hOa W).2); have Vb := Lib.hid (fun W => (hOb W).2); have Vc := Lib.hid (fun W => (hOc W).2)
          have zs2 : (strB M2).size ≤ 4800 := by rw [strB_size]; exact z2
          obtain ⟨T1, hT1⟩ : ∃ m, strB M1 = m := ⟨_, rfl⟩
          obtain ⟨T2, hT2⟩ : ∃ m, strB M2 = m := ⟨_, rfl⟩
          obtain ⟨T3, hT3⟩ : ∃ m, strB M3 = m := ⟨_, rfl⟩
          simp only [hT1] at Sa J1; simp only [hT2] at Sb J2; simp only [hT3] at Sc
          rw [hT2, hT3] at hcat; rw [hT2] at zs2
          have c1 : r ^^^ 1099511627775 = crc M1 := by unfold crc; rw [hrun.out]
          have c2 : r0 ^^^ 1099511627775 = crc M2 := by unfold crc; rw [hcrunC]
          have c3 : R3 ^^^ 1099511627775 = crc M3 := by unfold crc; rw [r3]
          have V1 := Lib.hid (fun W : World => value_any r W hr)
          have V2 := Lib.hid (fun W : World => value_any r0 W hRC)
          have V3 := Lib.hid (fun W : World => value_any R3 W zl)
          have C1 := Lib.hid (fun (a : Option Addr) (cap : Nat) (W : World) (h : BytesA W a M1) (h2 : LaidC W) => crc40_any a cap M1 W h (by omega) h2)
          have C2 := Lib.hid (fun (a : Option Addr) (cap : Nat) (W : World) (h : BytesA W a M2) (h2 : LaidC W) => crc40_any a cap M2 W h (by omega) h2)
          have C3 := Lib.hid (fun (a : Option Addr) (cap : Nat) (W : World) (h : BytesA W a M3) (h2 : LaidC W) => crc40_any a cap M3 W h (by omega) h2)
          rw [c1] at V1; rw [c2] at V2; rw [c3] at V3
          obtain ⟨X1, hX1⟩ : ∃ m, crc M1 = m := ⟨_, rfl⟩
          obtain ⟨X2, hX2⟩ : ∃ m, crc M2 = m := ⟨_, rfl⟩
          obtain ⟨X3, hX3⟩ : ∃ m, crc M3 = m := ⟨_, rfl⟩
          simp only [hX1] at V1 C1; simp only [hX2] at V2 C2; simp only [hX3] at V3 C3
          obtain ⟨L1, hL1⟩ : ∃ m, M1.length = m := ⟨_, rfl⟩
          obtain ⟨L2, hL2⟩ : ∃ m, M2.length = m := ⟨_, rfl⟩
          obtain ⟨L3, hL3⟩ : ∃ m, M3.length = m := ⟨_, rfl⟩
          simp only [hL1] at Sa C1; simp only [hL2] at Sb C2; simp only [hL3] at Sc C3
          have k1 : wr.cell? ⟨G, 0, none⟩ = some (.int .u64 (r : Int)) := hK.out.cell 0
          have k2 : wr.cell? ⟨G2, 0, none⟩ = some (.int .u64 (r0 : Int)) := hK2.out.cell 0
          have gl2 : G2 < wr.heap.size := hK2.out.lt
          clear hrun hcrunC hrunC lC FC z1 z2 z3 l1 l2 l3 st hM1 hM2 hM3 hR3 hOa hOb hOc hT1 hT2 hT3 c1 c2 c3 hX1 hX2 hX3 hL1 hL2 hL3 hr hRC zl r3 K4 K5 B4 CA
          clear hK hK2
          go_wp2_with fail
          refine (ADD.out _ (LA.out.mono hbe.out)).mono ?_
          rintro e w5 ⟨rfl, hb5⟩
          have N1 := Lib.hid (GF.out.out.below hb5 GF.out.out.lt); have N2 := Lib.hid (GF2.out.out.below hb5 GF2.out.out.lt)
          have B5 := Lib.hid (bt hbe.out hb5)
          clear hb5 k1 k2 GF GF2 hbe gl2
          go_wp2_with fail
          refine (J1.out _ (HP.out.mono (B5.out.alloc B5.out.size _))).mono ?_
          rintro e w6 ⟨rfl, hw⟩
          have P1 := Lib.hid (show Blk w6 G 30 #[.int .u64 (r : Int)] by rw [← hw]; exact N1.out.alloc _)
          have P2 := Lib.hid (show Blk w6 G2 30 #[.int .u64 (r0 : Int)] by rw [← hw]; exact N2.out.alloc _)
          have P3 := Lib.hid (show Blk w6 w5.heap.size 30 #[.int .u64 (R3 : Int)] by rw [← hw]; exact Blk.new _ _ _)
          have B6 := Lib.hid (show Below w.heap.size w w6 by rw [← hw]; exact B5.out.alloc B5.out.size _)
          obtain ⟨G3, hG3⟩ : ∃ m, w5.heap.size = m := ⟨_, rfl⟩
          rw [hG3] at P3 ⊢
          clear hw hG3 N1 N2 B5
          go_wp2_with fail
          refine (J2.out _ (HP.out.mono B6.out)).mono ?_
          rintro e w7 ⟨rfl, rfl⟩
          have k1 : w6.cell? ⟨G, 0, none⟩ = some (.int .u64 (r : Int)) := P1.out.cell 0
          go_wp2_with fail
          refine (V1.out _).mono ?_
          rintro e w7 ⟨rfl, hb7⟩
          have Q2 := Lib.hid (P2.out.below hb7 P2.out.lt); have Q3 := Lib.hid (P3.out.below hb7 P3.out.lt)
          have B7 := Lib.hid (bt B6.out hb7)
          clear hb7 P1 P2 P3 k1 B6 J1 J2
          have B8 := Lib.hid (show Below w.heap.size w (w7.drew.alloc (Oa w7)) from (Below.drew B7.out).alloc B7.out.size _)
          go_wp2_with fail
          refine (C1.out _ _ _ (Va.out w7) (LA.out.mono B8.out)).mono ?_
          rintro e w8 ⟨rfl, hb8⟩
          have R2 := Lib.hid ((Q2.out.drew.alloc (Oa w7)).below hb8 (Q2.out.drew.alloc (Oa w7)).lt)
          have R3' := Lib.hid ((Q3.out.drew.alloc (Oa w7)).below hb8 (Q3.out.drew.alloc (Oa w7)).lt)
          have B9 := Lib.hid (bt B8.out hb8)
          have k2 : w8.cell? ⟨G2, 0, none⟩ = some (.int .u64 (r0 : Int)) := R2.out.cell 0
          clear hb8 Q2 Q3 B7 B8
          go_wp2_with fail
          refine (V2.out _).mono ?_
          rintro e w9 ⟨rfl, hb9⟩
          have S3 := Lib.hid (R3'.out.below hb9 R3'.out.lt)
          have B10 := Lib.hid (bt B9.out hb9)
          clear hb9 R2 R3' B9 k2
          have B11 := Lib.hid (show Below w.heap.size w (w9.drew.alloc (Ob w9)) from (Below.drew B10.out).alloc B10.out.size _)
          go_wp2_with fail
          refine (C2.out _ _ _ (Vb.out w9) (LA.out.mono B11.out)).mono ?_
          rintro e w10 ⟨rfl, hb10⟩
          have U3 := Lib.hid ((S3.out.drew.alloc (Ob w9)).below hb10 (S3.out.drew.alloc (Ob w9)).lt)
          have B12 := Lib.hid (bt B11.out hb10)
          have k3 : w10.cell? ⟨G3, 0, none⟩ = some (.int .u64 (R3 : Int)) := U3.out.cell 0
          clear hb10 S3 B10 B11
          go_wp2_with fail
          refine (V3.out _).mono ?_
          rintro e w11 ⟨rfl, hb11⟩
          have B13 := Lib.hid (bt B12.out hb11)
          clear hb11 U3 B12 k3
          have B14 := Lib.hid (show Below w.heap.size w (w11.drew.alloc (Oc w11)) from (Below.drew B13.out).alloc B13.out.size _)
          go_wp2_with fail
          refine (C3.out _ _ _ (Vc.out w11) (LA.out.mono B14.out)).mono ?_
          rintro e w12 ⟨rfl, hb12⟩
          have B15 := Lib.hid (bt B14.out hb12)
          clear hb12 B13 B14
          go_wp2
          go_ret
          exact ⟨rfl, B15.out⟩
end Go.Proofs.YtjeipkoomefekaaDoor
