/- The law HashStreamsAgree, walked. -/
import Derived.Test.YtjeipkoomefekaaDoorBB
namespace Go.Proofs.YtjeipkoomefekaaDoor
set_option linter.unusedVariables false
set_option linter.unusedSimpArgs false
open Go.RowKit
set_option maxRecDepth 100000 in
set_option maxHeartbeats 1000000 in
theorem streamsAgree (a : Option Addr) (cap : Nat) (ss : List ByteArray) (t : ByteArray) (A : Nat) (w : World) (hp : StrsA w a ss) (hca : ss.length ≤ cap) (hcm : cap ≤ 9223372036854775807) (hcn : a = none → cap = 0) (hz : ∀ s ∈ ss, s.size ≤ 9223372036854775807) (ht : t.size ≤ 9223372036854775807) (hA : A < 256) (hla : LaidC w) :
    Calls Tryd.prog 12 #[.slice a ss.length cap, .string t, .int .u8 A] w fun e w' => e = .returned (.bool true) ∧ Below w.heap.size w w' := by
  have LA := Lib.hid hla
  have HP := Lib.hid hp
  have FW := Lib.hid (fun (W : World) (h : StrsA W a ss) => few_any a cap ss W h (by omega) hz)
  by_cases hF0 : ¬ Few ss
  · obtain ⟨n, hn⟩ : ∃ n, ss.length = n := ⟨_, rfl⟩
    rw [hn] at FW hca ⊢
    clear hp hla hn hz
    go_enter Tryd.func12, Tryd.ntmps12
    go_wp2_with fail
    refine (sane _ LA.out).mono ?_
    rintro e w1 ⟨rfl, hb1⟩
    have B1 := Lib.hid hb1
    clear hb1
    go_wp2_with fail
    refine (FW.out _ (HP.out.mono B1.out)).mono ?_
    rintro e w2 ⟨⟨f, rfl, hf⟩, rfl⟩
    obtain rfl : f = false := by cases f; rfl; exact absurd (hf.1 rfl) hF0
    clear hf
    go_wp2
    go_ret
    exact ⟨rfl, B1.out⟩
  have hF : Few ss := Classical.byContradiction hF0
  clear hF0
  by_cases h4 : 400 < t.size
  · obtain ⟨n, hn⟩ : ∃ n, ss.length = n := ⟨_, rfl⟩
    rw [hn] at FW hca ⊢
    clear hp hla hn hz
    go_enter Tryd.func12, Tryd.ntmps12
    go_wp2_with fail
    refine (sane _ LA.out).mono ?_
    rintro e w1 ⟨rfl, hb1⟩
    have B1 := Lib.hid hb1
    clear hb1
    go_wp2_with fail
    refine (FW.out _ (HP.out.mono B1.out)).mono ?_
    rintro e w2 ⟨⟨f, rfl, hf⟩, rfl⟩
    obtain rfl : f = true := hf.2 hF
    clear hf
    go_wp2
    go_ret
    exact ⟨rfl, B1.out⟩
  obtain ⟨n, hn⟩ : ∃ n, ss.length = n := ⟨_, rfl⟩
  have n12 : n ≤ 12 := by have := hF.1; omega
  obtain ⟨N, hN⟩ : ∃ N, n + 1 = N := ⟨_, rfl⟩
  have e1 : (n : Int) + 1 = (N : Int) := by omega
  have N1 : 0 < N := by omega
  have N13 : N ≤ 13 := by omega
  obtain ⟨C, hC⟩ : ∃ S, A % N = S := ⟨_, rfl⟩
  have Cn : C ≤ n := by have := Nat.mod_lt A N1; omega
  have eC : (A : Int) % (N : Int) = (C : Int) := by rw [← hC]; simp
  have eC2 : (A : Int).tmod (N : Int) = (C : Int) := by rw [Int.tmod_eq_emod_of_nonneg (by omega)]; exact eC
  have Nz : ((N : Int) == 0) = false := beq_eq_false_iff_ne.2 (by omega)
  have wC : IntKind.i64.wrap (C : Int) = (C : Int) := by rw [IntKind.wrap_i64]; omega
  have HE := Lib.hid hn
  have HF := Lib.hid hF
  have CA := Lib.hid (fun (X : Array Value) (m : List Nat) (k : Nat) (hk : k < n) (W : World) (hX : InS X m) (hm : m.length ≤ 4800) (h2 : LaidC W) => inAdd_any X m (ss.getD k ByteArray.empty) W hX (by have := hF.2 _ (mem_getD (show k < ss.length by omega)); omega) h2)
  have HT := Lib.hid hca
  simp only [hn] at FW
  rw [hn]
  rw [hn] at hca
  clear hp hla hn hz hN hC
  go_enter Tryd.func12, Tryd.ntmps12
  go_wp2_with fail
  refine (sane _ LA.out).mono ?_
  rintro e w1 ⟨rfl, hb1⟩
  have B1 := Lib.hid (show Below w.heap.size w w1 from hb1)
  clear hb1
  go_wp2_with fail
  refine (FW.out _ (HP.out.mono B1.out)).mono ?_
  rintro e w2 ⟨⟨f, rfl, hf⟩, rfl⟩
  obtain rfl : f = true := hf.2 HF.out
  clear hf FW hF
  go_wp2_with fail
  refine (inBegin_any _).mono ?_
  rintro e w2 ⟨⟨X0, rfl, hX0⟩, hb2⟩
  have B2 := Lib.hid (bt B1.out hb2)
  have IX := Lib.hid hX0.info; have SX := Lib.hid hX0.old; have OX := Lib.hid hX0.one
  have X0S := Lib.hid hX0
  clear hb2 B1 hX0
  go_wp2_with (with_reducible refine wpList_store_blk rfl _ _ _ rfl w2.heap.size 53 (svA st00 z64 0) _ rfl rfl (Blk.new' _ _ _ _ rfl rfl) IX.out SX.out OX.out rfl ?_)
  generalize hW : World.setRow _ w2.heap.size X0 = W3
  have K3 := Lib.hid (show Blk W3 w2.heap.size 53 X0 by rw [← hW]; exact (Blk.new' w2 53 _ (svA st00 z64 0) rfl rfl).row_ _)
  have B3 := Lib.hid (show Below w.heap.size w W3 by rw [← hW]; exact below_setRow (B2.out.alloc B2.out.size _) B2.out.size _)
  obtain ⟨G, hG⟩ : ∃ G, w2.heap.size = G := ⟨_, rfl⟩
  have GW := Lib.hid (show w.heap.size ≤ G by rw [← hG]; exact B2.out.size)
  rw [hG] at K3 ⊢
  clear B2 hG hW IX SX OX
  go_loopw [10] (fun ui wr => ∃ (k : Nat) (X : Array Value), k ≤ C ∧ ui = .int .i64 k ∧ Hid (InS X (catS (ss.take k))) ∧ Hid (Blk wr G 53 X) ∧ Hid (Below w.heap.size w wr)) (fun ui _ => C - (intOf ui).toNat)
  case atStart => exact ⟨0, X0, by omega, rfl, X0S, K3, B3⟩
  case round =>
    obtain ⟨k, X, hk, rfl, hX, hK, hbe⟩ := hrel
    by_cases hlt : k < C
    · have hkn : k < n := by omega
      obtain ⟨b, off, rfl, q1⟩ := HP.out.mono hbe.out k (by rw [HE.out]; exact hkn)
      have hc := catS_take ss k (by rw [HE.out]; exact hkn)
      have cl : (catS (ss.take k)).length ≤ 4800 := by
        have := catS_len (ss.take k) fun s hs => HF.out.2 s (List.mem_of_mem_take hs)
        rw [List.length_take] at this; omega
      have ca := fun (W : World) (h2 : LaidC W) => CA.out X _ k hkn W hX.out cl h2
      simp only [← hc] at ca
      obtain ⟨u, hu⟩ : ∃ m, ss.getD k ByteArray.empty = m := ⟨_, rfl⟩
      rw [hu] at q1; simp only [hu] at ca
      have CB := Lib.hid ca
      have IX := Lib.hid hX.out.info; have XS := Lib.hid hX.out.size
      have wk : IntKind.i64.wrap (k : Int) = (k : Int) := by rw [IntKind.wrap_i64]; omega
      have KD := Lib.hid (show Blk wr.drew G 53 X from hK.out.drew)
      clear hc hu ca cl hX
      go_wp2
      refine wp_region_still_tail 5 (by kernel_rfl) (by kernel_rfl) ?_
      simp only [List.take_succ_cons, List.take_zero, List.drop_succ_cons, List.drop_zero]
      show wpStill _ _ (World.drew _) _ _ _
      refine wpStill_load_all rfl _ _ rfl G rfl 53 _ _ KD.out Tryd.underlying53 IX.out ?_
      repeat still_step
      refine wpStill_nil ?_
      show wpList _ _ _ _ _ (World.drew _)
      go_wp2_with fail
      refine (CB.out _ (LA.out.mono (Below.drew hbe.out))).mono ?_
      rintro e w5 ⟨⟨Y, rfl, hY⟩, hb5⟩
      have K6 := Lib.hid (KD.out.below hb5 KD.out.lt)
      have B6 := Lib.hid ((Below.drew hbe.out).trans (hb5.mono (by have := hbe.out.size; simpa using this)))
      have IY := Lib.hid hY.info; have SY := Lib.hid (show X.size = Y.size by rw [XS.out, hY.size]); have OY := Lib.hid hY.one
      have YS := Lib.hid hY
      clear hb5 hbe hK hY
      go_wp2_with (with_reducible refine wpList_store_blk rfl _ _ _ rfl G 53 X _ rfl rfl K6.out IY.out SY.out OY.out rfl ?_)
      go_roundw
      case rel => exact ⟨k + 1, Y, by omega, by go_num, YS, Lib.hid (K6.out.row_ _), Lib.hid (below_setRow B6.out GW.out _)⟩
      case measure => simp [intOf]; omega
    · obtain rfl : C = k := by omega
      have IX := Lib.hid hX.out.info; have SX := Lib.hid hX.out.old; have OX := Lib.hid hX.out.one
      have g12 : G < wr.heap.size := hK.out.lt
      go_wp2_with (first | (with_reducible refine wpList_load_all rfl _ _ rfl G rfl 53 _ _ hK.out Tryd.underlying53 IX.out ?_) | (with_reducible refine wpList_store_blk rfl _ _ _ rfl wr.heap.size 53 (svA st00 z64 0) _ rfl rfl (Blk.new' _ _ _ _ rfl rfl) IX.out SX.out OX.out rfl ?_))
      generalize hW : World.setRow _ wr.heap.size X = W4
      have K4 := Lib.hid (show Blk W4 G 53 X by rw [← hW]; exact (hK.out.alloc _).rowfar (by omega) _)
      have K5 := Lib.hid (show Blk W4 wr.heap.size 53 X by rw [← hW]; exact (Blk.new' wr 53 _ (svA st00 z64 0) rfl rfl).row_ _)
      have B4 := Lib.hid (show Below w.heap.size w W4 by rw [← hW]; exact below_setRow (hbe.out.alloc hbe.out.size _) hbe.out.size _)
      obtain ⟨G2, hG2⟩ : ∃ G, wr.heap.size = G := ⟨_, rfl⟩
      rw [hG2] at K5 g12 ⊢
      clear hK hbe hG2 hW IX SX OX X0S K3 B3
      have hXC := hX
      obtain ⟨XC, hxc⟩ : ∃ Y, X = Y := ⟨_, rfl⟩
      rw [hxc] at K4 K5 hXC
      simp only [hxc]
      clear hxc hX X
      go_loopw [12] (fun ui wr => ∃ (k : Nat) (X : Array Value), k ≤ n ∧ ui = .int .i64 k ∧ Hid (InS X (catS (ss.take k))) ∧ Hid (Blk wr G 53 X) ∧ Hid (Below w.heap.size w wr) ∧ Hid (Blk wr G2 53 XC)) (fun ui _ => n - (intOf ui).toNat)
      case atStart => exact ⟨C, XC, Cn, rfl, hXC, K4, B4, K5⟩
      case round =>
        obtain ⟨k, X, hk, rfl, hX, hK, hbe, hK2⟩ := hrel
        by_cases hlt : k < n
        · have hkn : k < n := by omega
          obtain ⟨b, off, rfl, q1⟩ := HP.out.mono hbe.out k (by rw [HE.out]; exact hkn)
          have hc := catS_take ss k (by rw [HE.out]; exact hkn)
          have cl : (catS (ss.take k)).length ≤ 4800 := by
            have := catS_len (ss.take k) fun s hs => HF.out.2 s (List.mem_of_mem_take hs)
            rw [List.length_take] at this; omega
          have ca := fun (W : World) (h2 : LaidC W) => CA.out X _ k hkn W hX.out cl h2
          simp only [← hc] at ca
          obtain ⟨u, hu⟩ : ∃ m, ss.getD k ByteArray.empty = m := ⟨_, rfl⟩
          rw [hu] at q1; simp only [hu] at ca
          have CB := Lib.hid ca
          have IX := Lib.hid hX.out.info; have XS := Lib.hid hX.out.size
          have wk : IntKind.i64.wrap (k : Int) = (k : Int) := by rw [IntKind.wrap_i64]; omega
          have KD := Lib.hid (show Blk wr.drew G 53 X from hK.out.drew)
          clear hc hu ca cl hX
          go_wp2
          refine wp_region_still_tail 5 (by kernel_rfl) (by kernel_rfl) ?_
          simp only [List.take_succ_cons, List.take_zero, List.drop_succ_cons, List.drop_zero]
          show wpStill _ _ (World.drew _) _ _ _
          refine wpStill_load_all rfl _ _ rfl G rfl 53 _ _ KD.out Tryd.underlying53 IX.out ?_
          repeat still_step
          refine wpStill_nil ?_
          show wpList _ _ _ _ _ (World.drew _)
          go_wp2_with fail
          refine (CB.out _ (LA.out.mono (Below.drew hbe.out))).mono ?_
          rintro e w5 ⟨⟨Y, rfl, hY⟩, hb5⟩
          have K6 := Lib.hid (KD.out.below hb5 KD.out.lt)
          have B6 := Lib.hid ((Below.drew hbe.out).trans (hb5.mono (by have := hbe.out.size; simpa using this)))
          have IY := Lib.hid hY.info; have SY := Lib.hid (show X.size = Y.size by rw [XS.out, hY.size]); have OY := Lib.hid hY.one
          have YS := Lib.hid hY
          have K7 := Lib.hid (hK2.out.drew.below hb5 hK2.out.drew.lt)
          clear hb5 hbe hK hY
          go_wp2_with (with_reducible refine wpList_store_blk rfl _ _ _ rfl G 53 X _ rfl rfl K6.out IY.out SY.out OY.out rfl ?_)
          go_roundw
          case rel => exact ⟨k + 1, Y, by omega, by go_num, YS, Lib.hid (K6.out.row_ _), Lib.hid (below_setRow B6.out GW.out _), Lib.hid (K7.out.rowfar (by omega) _)⟩
          case measure => simp [intOf]; omega
        · obtain rfl : n = k := by omega
          have e0 : catS (ss.take n) = catS ss := by rw [List.take_of_length_le (by rw [HE.out]; omega)]
          rw [e0] at hX
          clear e0 hlt hk
          have lC : (ss.take C).length = C := by rw [List.length_take, HE.out]; omega
          have FC : Few (ss.take C) := ⟨by omega, fun s hs => HF.out.2 s (List.mem_of_mem_take hs)⟩
          have z1 : (catS ss).length ≤ 4800 := by have := catS_len ss HF.out.2; have := HF.out.1; omega
          have z2 : (catS (ss.take C)).length ≤ 4800 := by have := catS_len (ss.take C) FC.2; have := FC.1; omega
          have J1 := Lib.hid (fun (W : World) (h : StrsA W a ss) => by have := joined_any a cap ss W h HF.out; rw [HE.out] at this; exact this)
          have J2 := Lib.hid (fun (W : World) (h : StrsA W a ss) => by have := joined_any a cap (ss.take C) W (h.take C) FC; rw [lC] at this; exact this)
          have SLI := fun (W : World) => slice_hi W a n cap C (by omega) hcm hcn
          have l1 := catS_lt ss; have l2 := catS_lt (ss.take C)
          obtain ⟨M1, hM1⟩ : ∃ m, catS ss = m := ⟨_, rfl⟩
          obtain ⟨M2, hM2⟩ : ∃ m, catS (ss.take C) = m := ⟨_, rfl⟩
          rw [hM1] at z1 l1 hX; rw [hM2] at z2 l2 hXC
          simp only [hM1] at J1; simp only [hM2] at J2
          have l3 : ∀ x ∈ M2 ++ sb t, x < 256 := fun x hx => by
            rcases List.mem_append.1 hx with h | h
            · exact l2 x h
            · exact sb_lt t x h
          have st := sb_len t
          have z3 : (M2 ++ sb t).length ≤ 5200 := by rw [List.length_append]; omega
          have ADD := Lib.hid (fun (W : World) (h2 : LaidC W) => inAdd_any XC M2 t W hXC.out (by omega) h2)
          have hcat : strB M2 ++ t = strB (M2 ++ sb t) := by rw [← strB_app, strB_sb]
          obtain ⟨M3, hM3⟩ : ∃ m, M2 ++ sb t = m := ⟨_, rfl⟩
          rw [hM3] at l3 z3 hcat; simp only [hM3] at ADD
          obtain ⟨Ga, Oa, hOa⟩ := str_conv2 M1 l1
          obtain ⟨Gb, Ob, hOb⟩ := str_conv2 M2 l2
          obtain ⟨Gc, Oc, hOc⟩ := str_conv2 M3 l3
          have Sa := fun W => (hOa W).1; have Sb := fun W => (hOb W).1; have Sc := fun W => (hOc W).1
          have Va := Lib.hid (fun W => (hOa W).2.1); have Vb := Lib.hid (fun W => (hOb W).2.1); have Vc := Lib.hid (fun W => (hOc W).2.1)
          have Ca := Lib.hid (fun W => (hOa W).2.2); have Cb := Lib.hid (fun W => (hOb W).2.2); have Cc := Lib.hid (fun W => (hOc W).2.2)
          have zs2 : (strB M2).size ≤ 4800 := by rw [strB_size]; exact z2
          obtain ⟨T1, hT1⟩ : ∃ m, strB M1 = m := ⟨_, rfl⟩
          obtain ⟨T2, hT2⟩ : ∃ m, strB M2 = m := ⟨_, rfl⟩
          obtain ⟨T3, hT3⟩ : ∃ m, strB M3 = m := ⟨_, rfl⟩
          simp only [hT1] at Sa J1; simp only [hT2] at Sb J2; simp only [hT3] at Sc
          rw [hT2, hT3] at hcat; rw [hT2] at zs2
          have V1 := Lib.hid (fun (W : World) (h2 : LaidC W) => inSum_any X M1 W hX.out (by omega) h2)
          have V2 := Lib.hid (fun (W : World) (h2 : LaidC W) => inSum_any XC M2 W hXC.out (by omega) h2)
          have V3 := Lib.hid (fun (Y : Array Value) (W : World) (h : InS Y M3) (h2 : LaidC W) => inSum_any Y M3 W h (by omega) h2)
          have C1 := Lib.hid (fun (a : Option Addr) (cap : Nat) (W : World) (h : BytesA W a M1) (hc : M1.length ≤ cap) (h2 : LaidC W) => hashsum_any M1 a cap W (by omega) h l1 hc h2)
          have C2 := Lib.hid (fun (a : Option Addr) (cap : Nat) (W : World) (h : BytesA W a M2) (hc : M2.length ≤ cap) (h2 : LaidC W) => hashsum_any M2 a cap W (by omega) h l2 hc h2)
          have C3 := Lib.hid (fun (a : Option Addr) (cap : Nat) (W : World) (h : BytesA W a M3) (hc : M3.length ≤ cap) (h2 : LaidC W) => hashsum_any M3 a cap W (by omega) h l3 hc h2)
          have E1 := equalIn_32 (sha M1) (sha_len M1); have E2 := equalIn_32 (sha M2) (sha_len M2); have E3 := equalIn_32 (sha M3) (sha_len M3)
          obtain ⟨D1, hD1⟩ : ∃ m, bvs (sha M1) = m := ⟨_, rfl⟩
          obtain ⟨D2, hD2⟩ : ∃ m, bvs (sha M2) = m := ⟨_, rfl⟩
          obtain ⟨D3, hD3⟩ : ∃ m, bvs (sha M3) = m := ⟨_, rfl⟩
          simp only [hD1] at V1 C1 E1; simp only [hD2] at V2 C2 E2; simp only [hD3] at V3 C3 E3
          obtain ⟨L1, hL1⟩ : ∃ m, M1.length = m := ⟨_, rfl⟩
          obtain ⟨L2, hL2⟩ : ∃ m, M2.length = m := ⟨_, rfl⟩
          obtain ⟨L3, hL3⟩ : ∃ m, M3.length = m := ⟨_, rfl⟩
          simp only [hL1] at Sa C1 Ca; simp only [hL2] at Sb C2 Cb; simp only [hL3] at Sc C3 Cc
          have I1 := Lib.hid hX.out.info; have I2 := Lib.hid hXC.out.info
          clear lC FC z1 z2 z3 l1 l2 l3 st hM1 hM2 hM3 hOa hOb hOc hT1 hT2 hT3 hD1 hD2 hD3 hL1 hL2 hL3 hX hXC K4 K5 B4 CA
          go_wp2_with (with_reducible refine wpList_load_all rfl _ _ rfl G2 rfl 53 _ _ hK2.out Tryd.underlying53 I2.out ?_)
          refine (ADD.out _ (LA.out.mono hbe.out)).mono ?_
          rintro e w5 ⟨⟨Y, rfl, hY⟩, hb5⟩
          have N1 := Lib.hid (hK.out.below hb5 hK.out.lt); have N2 := Lib.hid (hK2.out.below hb5 hK2.out.lt)
          have B5 := Lib.hid (bt hbe.out hb5)
          have I3 := Lib.hid hY.info; have O3 := Lib.hid hY.old; have U3 := Lib.hid hY.one; have YS := Lib.hid hY
          clear hb5 hK hK2 hbe hY
          go_wp2_with (with_reducible refine wpList_store_blk rfl _ _ _ rfl w5.heap.size 53 (svA st00 z64 0) _ rfl rfl (Blk.new' _ _ _ _ rfl rfl) I3.out O3.out U3.out rfl ?_)
          generalize hW : World.setRow _ w5.heap.size Y = w6
          have P1 := Lib.hid (show Blk w6 G 53 X by rw [← hW]; exact (N1.out.alloc _).rowfar (by have := N1.out.lt; omega) _)
          have P2 := Lib.hid (show Blk w6 G2 53 XC by rw [← hW]; exact (N2.out.alloc _).rowfar (by have := N2.out.lt; omega) _)
          have P3 := Lib.hid (show Blk w6 w5.heap.size 53 Y by rw [← hW]; exact (Blk.new' w5 53 _ (svA st00 z64 0) rfl rfl).row_ _)
          have B6 := Lib.hid (show Below w.heap.size w w6 by rw [← hW]; exact below_setRow (B5.out.alloc B5.out.size _) B5.out.size _)
          obtain ⟨G3, hG3⟩ : ∃ m, w5.heap.size = m := ⟨_, rfl⟩
          rw [hG3] at P3 ⊢
          clear hW hG3 N1 N2 B5
          refine (J1.out _ (HP.out.mono B6.out)).mono ?_
          rintro e w7 ⟨rfl, rfl⟩
          go_wp2_with fail
          refine (J2.out _ (HP.out.mono B6.out)).mono ?_
          rintro e w7 ⟨rfl, rfl⟩
          go_wp2_with (refine wpList_load_gs (by rfl) _ _ rfl G rfl 53 _ _ P1.out Tryd.underlying53 I1.out ?_)
          refine (V1.out _ (LA.out.mono B6.out)).mono ?_
          rintro e w7 ⟨rfl, hb7⟩
          have Q2 := Lib.hid (P2.out.below hb7 P2.out.lt); have Q3 := Lib.hid (P3.out.below hb7 P3.out.lt)
          have B7 := Lib.hid (bt B6.out hb7)
          clear hb7 P1 P2 P3 B6 J1 J2
          have B8 := Lib.hid (show Below w.heap.size w (w7.drew.alloc (Oa w7)) from (Below.drew B7.out).alloc B7.out.size _)
          go_wp2_with fail
          refine (C1.out _ _ _ (Va.out w7) (Ca.out w7) (LA.out.mono B8.out)).mono ?_
          rintro e w8 ⟨rfl, hb8⟩
          have R2 := Lib.hid ((Q2.out.drew.alloc (Oa w7)).below hb8 (Q2.out.drew.alloc (Oa w7)).lt)
          have R3' := Lib.hid ((Q3.out.drew.alloc (Oa w7)).below hb8 (Q3.out.drew.alloc (Oa w7)).lt)
          have B9 := Lib.hid (bt B8.out hb8)
          clear hb8 Q2 Q3 B7 B8
          go_wp2_with (refine wpList_load_gs (by rfl) _ _ rfl G2 rfl 53 _ _ R2.out Tryd.underlying53 I2.out ?_)
          refine (V2.out _ (LA.out.mono B9.out)).mono ?_
          rintro e w9 ⟨rfl, hb9⟩
          have S3 := Lib.hid (R3'.out.below hb9 R3'.out.lt)
          have B10 := Lib.hid (bt B9.out hb9)
          clear hb9 R2 R3' B9
          have B11 := Lib.hid (show Below w.heap.size w (w9.drew.alloc (Ob w9)) from (Below.drew B10.out).alloc B10.out.size _)
          go_wp2_with fail
          refine (C2.out _ _ _ (Vb.out w9) (Cb.out w9) (LA.out.mono B11.out)).mono ?_
          rintro e w10 ⟨rfl, hb10⟩
          have T3' := Lib.hid ((S3.out.drew.alloc (Ob w9)).below hb10 (S3.out.drew.alloc (Ob w9)).lt)
          have B12 := Lib.hid (bt B11.out hb10)
          clear hb10 S3 B10 B11
          go_wp2_with (refine wpList_load_gs (by rfl) _ _ rfl G3 rfl 53 _ _ T3'.out Tryd.underlying53 I3.out ?_)
          refine (V3.out _ _ YS.out (LA.out.mono B12.out)).mono ?_
          rintro e w11 ⟨rfl, hb11⟩
          have B13 := Lib.hid (bt B12.out hb11)
          clear hb11 T3' B12
          have B14 := Lib.hid (show Below w.heap.size w (w11.drew.alloc (Oc w11)) from (Below.drew B13.out).alloc B13.out.size _)
          go_wp2_with fail
          refine (C3.out _ _ _ (Vc.out w11) (Cc.out w11) (LA.out.mono B14.out)).mono ?_
          rintro e w12 ⟨rfl, hb12⟩
          have B15 := Lib.hid (bt B14.out hb12)
          clear hb12 B13 B14
          go_wp2
          go_ret
          exact ⟨rfl, B15.out⟩
end Go.Proofs.YtjeipkoomefekaaDoor
