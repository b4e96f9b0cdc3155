/- The law WireTruncated, walked. -/
import Derived.Test.YtlihndekeaefcaaU
namespace Go.Proofs.Ytlihndekeaefcaa
set_option linter.unusedVariables false
set_option linter.unusedSimpArgs false
open Go.RowKit
theorem BytesA.take {W : World} {a : Option Addr} {l : List Nat} (h : BytesA W a l) (i : Nat) : BytesA W a (l.take i) := by
  intro k hk
  rw [List.length_take] at hk
  obtain ⟨b, off, e1, e2, e3⟩ := h k (by omega)
  have hk' : k < i := by omega
  exact ⟨b, off, e1, by rw [getD_take hk']; exact e2, by rw [getD_take hk']; exact e3⟩
/-- Every part of the bytes is too short for a function. -/
def Short (f : FuncId) (l : List Nat) : Prop := ∀ (W : World) (a : Option Addr) (cap i : Nat), BytesA W a l → i < l.length → i ≤ cap → Calls Try.prog f #[.slice a i cap] W fun e W' => ∃ x y, e = .returned (.tuple #[x, y, .int .i64 10]) ∧ Below W.heap.size W W'
theorem take_len {l : List Nat} {i : Nat} (h : i < l.length) : (l.take i).length = i := by rw [List.length_take]; omega
theorem short_int (n : Int) (h1 : -9223372036854775808 ≤ n) (h2 : n ≤ 9223372036854775807) : Short 24 (enc n) := by
  intro W a cap i hp hi hc
  have h := getInt_any a cap ((enc n).take i) W (hp.take i) (by rw [take_len hi]; have := (enc_len n h1 h2).2; omega)
  rw [take_len hi] at h
  have g : G ((enc n).take i) = (0, 0, 10) := getI_cut 11 10 n i h1 h2 hi
  unfold GV at h
  rw [g] at h
  exact h.mono fun e W' ⟨k1, k2⟩ => ⟨_, _, k1, k2 ▸ Below.refl _ _⟩
theorem short_bytes (s : List Nat) (hs : s.length ≤ 100000) : Short 26 (encS s) := by
  intro W a cap i hp hi hc
  have h := getBytes_any a cap ((encS s).take i) W (by rw [take_len hi]; exact hc) (hp.take i) (by rw [take_len hi]; have := encS_len s (by omega); omega)
  rw [take_len hi] at h
  unfold GBV at h
  rw [GB_cut s i (by omega) hi] at h
  exact h.mono fun e W' ⟨k1, k2⟩ => ⟨_, _, k1, k2 ▸ Below.refl _ _⟩
theorem short_ints (l : List Int) (hl : ∀ x ∈ l, -9223372036854775808 ≤ x ∧ x ≤ 9223372036854775807) (hn : l.length ≤ 2000) : Short 28 (encL enc l) := by
  intro W a cap i hp hi hc
  have h := getInts_any a cap ((encL enc l).take i) W (by rw [take_len hi]; exact hc) (hp.take i) (by rw [take_len hi]; have := encL_ints l hl hn; omega)
  rw [take_len hi] at h
  have g := DL_cut (D := G) (f := enc) 1 l i (by decide) (by omega) (fun y hy => rt_enc y (hl y hy).1 (hl y hy).2) (fun y hy => cut_enc y (hl y hy).1 (hl y hy).2) hi
  refine h.mono ?_
  rintro e W' ⟨v, k1, -, k2⟩
  rw [g] at k1
  exact ⟨_, _, k1, k2⟩
theorem short_strs (l : List ByteArray) (hl : l.length + letters l ≤ 2000) : Short 31 (encL (fun s => encS (sb s)) l) := by
  have SZ : ∀ y ∈ l, y.size ≤ 1000000 := fun y hy => by have := letters_mem l y hy; omega
  intro W a cap i hp hi hc
  have h := getStrings_any a cap ((encL (fun s => encS (sb s)) l).take i) W (by rw [take_len hi]; exact hc) (hp.take i) (by rw [take_len hi]; have := encL_strs l (by omega); omega)
  rw [take_len hi] at h
  have g := DL_cut (D := GBs) (f := (fun s => encS (sb s))) 1 l i (by decide) (by omega) (fun y hy => rt_str y (SZ y hy)) (fun y hy => cut_str y (SZ y hy)) hi
  refine h.mono ?_
  rintro e W' ⟨v, k1, -, k2⟩
  rw [g] at k1
  exact ⟨_, _, k1, k2⟩
theorem short_digs (l : List (List Nat)) (hl : ∀ d ∈ l, d.length = 16 ∧ ∀ x ∈ d, x < 256) (hn : l.length ≤ 2000) : Short 34 (encL id l) := by
  intro W a cap i hp hi hc
  have h := getDigests_any a cap ((encL id l).take i) W (by rw [take_len hi]; exact hc) (hp.take i) (by rw [take_len hi]; have := encL_digs l hl (by omega); omega)
  rw [take_len hi] at h
  have g := DL_cut (D := GD) (f := id) 16 l i (by decide) (by omega) (fun y hy => rt_dig y (hl y hy).1) (fun y hy => cut_dig y (hl y hy).1) hi
  refine h.mono ?_
  rintro e W' ⟨v, k1, -, k2⟩
  rw [g] at k1
  exact ⟨_, _, k1, k2⟩
set_option maxRecDepth 100000 in
set_option maxHeartbeats 16000000 in
theorem truncated (n : Int) (s : ByteArray) (al ax ad : Option Addr) (cl cx cd : Nat) (l : List Int) (x : List ByteArray) (d : List (List Nat)) (w : World)
    (n1 : -9223372036854775808 ≤ n) (n2 : n ≤ 9223372036854775807) (hl : IntsA w al l) (hx : StrsA w ax x) (hd : DigsA w ad d) (hS : s.size + 10 * l.length + 16 * d.length ≤ 9223372036854775807) (hX : x.length ≤ 40 → x.length + letters x ≤ 9223372036854775807) (hX2 : x.length ≤ 9223372036854775807) :
    Calls Try.prog 9 #[.int .i64 n, .string s, .slice al l.length cl, .slice ax x.length cx, .slice ad d.length cd] w fun e w' => e = .returned (.bool true) ∧ Below w.heap.size w w' := by
  have HL := Lib.hid hl; have HX := Lib.hid hx; have HD := Lib.hid hd
  have HXX := Lib.hid hX
  clear hl hx hd hX
  by_cases h1 : 400 < s.size + 10 * l.length + 16 * d.length
  · go_enter Try.func9, Try.ntmps9
    go_wp2_with fail
    refine (sane _).mono ?_
    rintro e w1 ⟨rfl, hb1⟩
    go_wp2
    go_ret
    exact ⟨rfl, hb1⟩
  by_cases h2 : 40 < x.length
  · go_enter Try.func9, Try.ntmps9
    go_wp2_with fail
    refine (sane _).mono ?_
    rintro e w1 ⟨rfl, hb1⟩
    go_wp2
    go_ret
    exact ⟨rfl, hb1⟩
  have F := few_any ax cx x w HX.out (HXX.out (by omega))
  by_cases h3 : 2000 < x.length + letters x
  · rw [decide_eq_false (by omega)] at F
    have FF := Lib.hid F
    clear F
    go_enter Try.func9, Try.ntmps9
    go_wp2_with fail
    refine FF.out.mono ?_
    rintro e w0 ⟨rfl, rfl⟩
    go_wp2_with fail
    refine (sane _).mono ?_
    rintro e w1 ⟨rfl, hb1⟩
    go_wp2
    go_ret
    exact ⟨rfl, hb1⟩
  · rw [decide_eq_true (by omega)] at F
    have FF := Lib.hid F
    clear F HXX
    have lt0 := enc_lt n; have le0 : (enc n).length ≤ 1000000 := by have := (enc_len n n1 n2).2; omega
    have lt1 := encS_lt (sb s) (sb_lt s); have le1 : (encS (sb s)).length ≤ 1000000 := by have := encS_len (sb s) (by rw [sb_len]; omega); rw [sb_len] at this; omega
    have lt2 := encL_lt enc l (fun y _ => enc_lt y); have le2 : (encL enc l).length ≤ 1000000 := by have := encL_ints l HL.out.lt (by omega); omega
    have lt3 := encL_lt (fun s => encS (sb s)) x (fun y _ => encS_lt _ (sb_lt y)); have le3 : (encL (fun s => encS (sb s)) x).length ≤ 1000000 := by have := encL_strs x (by omega); omega
    have lt4 := encL_lt id d (fun y hy => (HD.out.all y hy).2); have le4 : (encL id d).length ≤ 1000000 := by have := encL_digs d HD.out.all (by omega); omega
    have SZ : ∀ y ∈ x, y.size ≤ 1000000 := fun y hy => by have := letters_mem x y hy; omega
    have i0 := fun W : World => int_any n W n1 n2
    have i1 := fun W : World => bytes_any s W (by omega)
    have i2 := fun (W : World) (h : IntsA W al l) => ints_any al cl l W h (by omega) (by omega)
    have i3 := fun (W : World) (h : StrsA W ax x) => strs_any ax cx x W h (by omega) (by omega) (fun k => getD_size x 1000000 SZ k)
    have i4 := fun (W : World) (h : DigsA W ad d) => digests_any ad cd d W h (by omega) (by omega)
    have s0 := short_int n n1 n2
    have s1 := short_bytes (sb s) (by rw [sb_len]; omega)
    have s2 := short_ints l HL.out.lt (by omega)
    have s3 := short_strs x (by omega)
    have s4 := short_digs d HD.out.all (by omega)
    obtain ⟨L0, e0⟩ : ∃ L, enc n = L := ⟨_, rfl⟩
    obtain ⟨L1, e1⟩ : ∃ L, encS (sb s) = L := ⟨_, rfl⟩
    obtain ⟨L2, e2⟩ : ∃ L, encL enc l = L := ⟨_, rfl⟩
    obtain ⟨L3, e3⟩ : ∃ L, encL (fun s => encS (sb s)) x = L := ⟨_, rfl⟩
    obtain ⟨L4, e4⟩ : ∃ L, encL id d = L := ⟨_, rfl⟩
    rw [e0] at lt0 le0 i0 s0
    rw [e1] at lt1 le1 i1 s1
    rw [e2] at lt2 le2 i2 s2
    rw [e3] at lt3 le3 i3 s3
    rw [e4] at lt4 le4 i4 s4
    have LT0 := Lib.hid lt0; have I0 := Lib.hid i0; have S0 := Lib.hid s0; have LE0 := Lib.hid le0
    have LT1 := Lib.hid lt1; have I1 := Lib.hid i1; have S1 := Lib.hid s1; have LE1 := Lib.hid le1
    have LT2 := Lib.hid lt2; have I2 := Lib.hid i2; have S2 := Lib.hid s2; have LE2 := Lib.hid le2
    have LT3 := Lib.hid lt3; have I3 := Lib.hid i3; have S3 := Lib.hid s3; have LE3 := Lib.hid le3
    have LT4 := Lib.hid lt4; have I4 := Lib.hid i4; have S4 := Lib.hid s4; have LE4 := Lib.hid le4
    clear lt0 i0 s0 e0 le0 lt1 i1 s1 e1 le1 lt2 i2 s2 e2 le2 lt3 i3 s3 e3 le3 lt4 i4 s4 e4 le4 SZ h3
    go_enter Try.func9, Try.ntmps9
    go_wp2_with fail
    refine FF.out.mono ?_
    rintro e w0 ⟨rfl, rfl⟩
    clear FF
    have B0 := Lib.hid (Below.refl w.heap.size w)
    go_wp2_with fail
    refine (I0.out _).mono ?_
    rintro e w1 ⟨v, rfl, o, hb⟩
    obtain ⟨a0, c0, rfl, hc0, y⟩ := OwnB.view o LT0.out
    have Y0 := Lib.hid y
    have C0 := Lib.hid hc0
    have B1 := Lib.hid (bt B0.out hb)
    clear o hb y B0 I0 LT0 hc0
    go_wp2_with fail
    refine (I1.out _).mono ?_
    rintro e w2 ⟨v, rfl, o, hb⟩
    obtain ⟨a1, c1, rfl, hc1, y⟩ := OwnB.view o LT1.out
    have Y0 := Lib.hid (Y0.out.mono hb)
    have Y1 := Lib.hid y
    have C1 := Lib.hid hc1
    have B2 := Lib.hid (bt B1.out hb)
    clear o hb y B1 I1 LT1 hc1
    go_wp2_with fail
    refine (I2.out _ (HL.out.mono B2.out)).mono ?_
    rintro e w3 ⟨v, rfl, o, hb⟩
    obtain ⟨a2, c2, rfl, hc2, y⟩ := OwnB.view o LT2.out
    have Y0 := Lib.hid (Y0.out.mono hb)
    have Y1 := Lib.hid (Y1.out.mono hb)
    have Y2 := Lib.hid y
    have C2 := Lib.hid hc2
    have B3 := Lib.hid (bt B2.out hb)
    clear o hb y B2 I2 LT2 hc2
    go_wp2_with fail
    refine (I3.out _ (HX.out.mono B3.out)).mono ?_
    rintro e w4 ⟨v, rfl, o, hb⟩
    obtain ⟨a3, c3, rfl, hc3, y⟩ := OwnB.view o LT3.out
    have Y0 := Lib.hid (Y0.out.mono hb)
    have Y1 := Lib.hid (Y1.out.mono hb)
    have Y2 := Lib.hid (Y2.out.mono hb)
    have Y3 := Lib.hid y
    have C3 := Lib.hid hc3
    have B4 := Lib.hid (bt B3.out hb)
    clear o hb y B3 I3 LT3 hc3
    go_wp2_with fail
    refine (I4.out _ (HD.out.mono B4.out)).mono ?_
    rintro e w5 ⟨v, rfl, o, hb⟩
    obtain ⟨a4, c4, rfl, hc4, y⟩ := OwnB.view o LT4.out
    have Y0 := Lib.hid (Y0.out.mono hb)
    have Y1 := Lib.hid (Y1.out.mono hb)
    have Y2 := Lib.hid (Y2.out.mono hb)
    have Y3 := Lib.hid (Y3.out.mono hb)
    have Y4 := Lib.hid y
    have C4 := Lib.hid hc4
    have B5 := Lib.hid (bt B4.out hb)
    clear o hb y B4 I4 LT4 hc4
    have BA := Lib.hid (((Below.refl w5.heap.size w5).alloc (Nat.le_refl _) (.cells #[.slice a0 L0.length c0, .slice a1 L1.length c1, .slice a2 L2.length c2, .slice a3 L3.length c3, .slice a4 L4.length c4] 28)))
    have K0 := Lib.hid (new_at w5 [.slice a0 L0.length c0, .slice a1 L1.length c1, .slice a2 L2.length c2, .slice a3 L3.length c3, .slice a4 L4.length c4] 28 0 _ rfl)
    have Y0 := Lib.hid (Y0.out.mono BA.out)
    have K1 := Lib.hid (new_at w5 [.slice a0 L0.length c0, .slice a1 L1.length c1, .slice a2 L2.length c2, .slice a3 L3.length c3, .slice a4 L4.length c4] 28 1 _ rfl)
    have Y1 := Lib.hid (Y1.out.mono BA.out)
    have K2 := Lib.hid (new_at w5 [.slice a0 L0.length c0, .slice a1 L1.length c1, .slice a2 L2.length c2, .slice a3 L3.length c3, .slice a4 L4.length c4] 28 2 _ rfl)
    have Y2 := Lib.hid (Y2.out.mono BA.out)
    have K3 := Lib.hid (new_at w5 [.slice a0 L0.length c0, .slice a1 L1.length c1, .slice a2 L2.length c2, .slice a3 L3.length c3, .slice a4 L4.length c4] 28 3 _ rfl)
    have Y3 := Lib.hid (Y3.out.mono BA.out)
    have K4 := Lib.hid (new_at w5 [.slice a0 L0.length c0, .slice a1 L1.length c1, .slice a2 L2.length c2, .slice a3 L3.length c3, .slice a4 L4.length c4] 28 4 _ rfl)
    have Y4 := Lib.hid (Y4.out.mono BA.out)
    have B6 := Lib.hid (bt B5.out BA.out)
    clear BA B5
    go_wp2
    obtain ⟨w6, hw6⟩ : ∃ w6, w5.alloc (.cells #[.slice a0 L0.length c0, .slice a1 L1.length c1, .slice a2 L2.length c2, .slice a3 L3.length c3, .slice a4 L4.length c4] 28) = w6 := ⟨_, rfl⟩
    obtain ⟨N, hN⟩ : ∃ N, w5.heap.size = N := ⟨_, rfl⟩
    simp only [hw6, hN] at B6 K0 Y0 K1 Y1 K2 Y2 K3 Y3 K4 Y4 ⊢
    clear hw6 hN
    go_loopw [11, 12, 13, 14, 49] (fun u11 u12 u13 u14 u49 wr => ∃ k : Int, 0 ≤ k ∧ k ≤ 5 ∧ u49 = .int .i64 k ∧ Hid (Below w6.heap.size w6 wr)) (fun _ _ _ _ u49 _ => 5 - (intOf u49).toNat)
    case atStart => exact ⟨0, by omega, by omega, rfl, Lib.hid (Below.refl _ _)⟩
    case round =>
      obtain ⟨k, hk0, hk, rfl, hbe⟩ := hrel
      rename World => wo
      have CASES : k = 0 ∨ k = 1 ∨ k = 2 ∨ k = 3 ∨ k = 4 ∨ k = 5 := by omega
      clear hk hk0
      rcases CASES with rfl | rfl | rfl | rfl | rfl | rfl
      · have KK := keep K0.out hbe.out
        simp only [Nat.zero_add] at KK
        have YY := Lib.hid (Y0.out.mono hbe.out)
        have SS := S0; have CC := C0.out; have LL := LE0.out
        obtain ⟨m, hm, hm1⟩ : ∃ m : Nat, min (L0.length : Int) 500 = m ∧ m ≤ L0.length := ⟨min L0.length 500, by omega, by omega⟩
        clear K0 Y0 S0 C0 LE0 K1 Y1 S1 C1 LE1 K2 Y2 S2 C2 LE2 K3 Y3 S3 C3 LE3 K4 Y4 S4 C4 LE4
        go_wp2
        go_loopw [13, 14, 57] (fun u13 u14 u57 wr => ∃ i : Nat, i ≤ m ∧ u57 = .int .i64 i ∧ Hid (Below wo.heap.size wo wr)) (fun _ _ u57 _ => m - (intOf u57).toNat)
        case atStart => exact ⟨0, by omega, rfl, Lib.hid (Below.refl _ _)⟩
        case round =>
          obtain ⟨i, hi, rfl, hbi⟩ := hrel
          by_cases hlt : i < m
          · have CL := Lib.hid (SS.out _ a0 c0 i (YY.out.mono hbi.out) (by omega) (by omega))
            go_wp2_with fail
            refine CL.out.mono ?_
            rintro e wz ⟨r1, r2, rfl, hb⟩
            have HB := Lib.hid (bt hbi.out hb)
            clear hb hbi CL
            go_wp2
            go_roundw
            case rel => exact ⟨i + 1, by omega, by go_num, HB⟩
            case measure => simp [intOf]; omega
          · go_wp2
            go_roundw
            case rel => exact ⟨1, by omega, by omega, by go_num, Lib.hid (bt hbe.out hbi.out)⟩
            case measure => simp [intOf]
      · have KK := keep K1.out hbe.out
        simp only [Nat.zero_add] at KK
        have YY := Lib.hid (Y1.out.mono hbe.out)
        have SS := S1; have CC := C1.out; have LL := LE1.out
        obtain ⟨m, hm, hm1⟩ : ∃ m : Nat, min (L1.length : Int) 500 = m ∧ m ≤ L1.length := ⟨min L1.length 500, by omega, by omega⟩
        clear K0 Y0 S0 C0 LE0 K1 Y1 S1 C1 LE1 K2 Y2 S2 C2 LE2 K3 Y3 S3 C3 LE3 K4 Y4 S4 C4 LE4
        go_wp2
        go_loopw [13, 14, 57] (fun u13 u14 u57 wr => ∃ i : Nat, i ≤ m ∧ u57 = .int .i64 i ∧ Hid (Below wo.heap.size wo wr)) (fun _ _ u57 _ => m - (intOf u57).toNat)
        case atStart => exact ⟨0, by omega, rfl, Lib.hid (Below.refl _ _)⟩
        case round =>
          obtain ⟨i, hi, rfl, hbi⟩ := hrel
          by_cases hlt : i < m
          · have CL := Lib.hid (SS.out _ a1 c1 i (YY.out.mono hbi.out) (by omega) (by omega))
            go_wp2_with fail
            refine CL.out.mono ?_
            rintro e wz ⟨r1, r2, rfl, hb⟩
            have HB := Lib.hid (bt hbi.out hb)
            clear hb hbi CL
            go_wp2
            go_roundw
            case rel => exact ⟨i + 1, by omega, by go_num, HB⟩
            case measure => simp [intOf]; omega
          · go_wp2
            go_roundw
            case rel => exact ⟨2, by omega, by omega, by go_num, Lib.hid (bt hbe.out hbi.out)⟩
            case measure => simp [intOf]
      · have KK := keep K2.out hbe.out
        simp only [Nat.zero_add] at KK
        have YY := Lib.hid (Y2.out.mono hbe.out)
        have SS := S2; have CC := C2.out; have LL := LE2.out
        obtain ⟨m, hm, hm1⟩ : ∃ m : Nat, min (L2.length : Int) 500 = m ∧ m ≤ L2.length := ⟨min L2.length 500, by omega, by omega⟩
        clear K0 Y0 S0 C0 LE0 K1 Y1 S1 C1 LE1 K2 Y2 S2 C2 LE2 K3 Y3 S3 C3 LE3 K4 Y4 S4 C4 LE4
        go_wp2
        go_loopw [13, 14, 57] (fun u13 u14 u57 wr => ∃ i : Nat, i ≤ m ∧ u57 = .int .i64 i ∧ Hid (Below wo.heap.size wo wr)) (fun _ _ u57 _ => m - (intOf u57).toNat)
        case atStart => exact ⟨0, by omega, rfl, Lib.hid (Below.refl _ _)⟩
        case round =>
          obtain ⟨i, hi, rfl, hbi⟩ := hrel
          by_cases hlt : i < m
          · have CL := Lib.hid (SS.out _ a2 c2 i (YY.out.mono hbi.out) (by omega) (by omega))
            go_wp2_with fail
            refine CL.out.mono ?_
            rintro e wz ⟨r1, r2, rfl, hb⟩
            have HB := Lib.hid (bt hbi.out hb)
            clear hb hbi CL
            go_wp2
            go_roundw
            case rel => exact ⟨i + 1, by omega, by go_num, HB⟩
            case measure => simp [intOf]; omega
          · go_wp2
            go_roundw
            case rel => exact ⟨3, by omega, by omega, by go_num, Lib.hid (bt hbe.out hbi.out)⟩
            case measure => simp [intOf]
      · have KK := keep K3.out hbe.out
        simp only [Nat.zero_add] at KK
        have YY := Lib.hid (Y3.out.mono hbe.out)
        have SS := S3; have CC := C3.out; have LL := LE3.out
        obtain ⟨m, hm, hm1⟩ : ∃ m : Nat, min (L3.length : Int) 500 = m ∧ m ≤ L3.length := ⟨min L3.length 500, by omega, by omega⟩
        clear K0 Y0 S0 C0 LE0 K1 Y1 S1 C1 LE1 K2 Y2 S2 C2 LE2 K3 Y3 S3 C3 LE3 K4 Y4 S4 C4 LE4
        go_wp2
        go_loopw [13, 14, 57] (fun u13 u14 u57 wr => ∃ i : Nat, i ≤ m ∧ u57 = .int .i64 i ∧ Hid (Below wo.heap.size wo wr)) (fun _ _ u57 _ => m - (intOf u57).toNat)
        case atStart => exact ⟨0, by omega, rfl, Lib.hid (Below.refl _ _)⟩
        case round =>
          obtain ⟨i, hi, rfl, hbi⟩ := hrel
          by_cases hlt : i < m
          · have CL := Lib.hid (SS.out _ a3 c3 i (YY.out.mono hbi.out) (by omega) (by omega))
            go_wp2_with fail
            refine CL.out.mono ?_
            rintro e wz ⟨r1, r2, rfl, hb⟩
            have HB := Lib.hid (bt hbi.out hb)
            clear hb hbi CL
            go_wp2
            go_roundw
            case rel => exact ⟨i + 1, by omega, by go_num, HB⟩
            case measure => simp [intOf]; omega
          · go_wp2
            go_roundw
            case rel => exact ⟨4, by omega, by omega, by go_num, Lib.hid (bt hbe.out hbi.out)⟩
            case measure => simp [intOf]
      · have KK := keep K4.out hbe.out
        simp only [Nat.zero_add] at KK
        have YY := Lib.hid (Y4.out.mono hbe.out)
        have SS := S4; have CC := C4.out; have LL := LE4.out
        obtain ⟨m, hm, hm1⟩ : ∃ m : Nat, min (L4.length : Int) 500 = m ∧ m ≤ L4.length := ⟨min L4.length 500, by omega, by omega⟩
        clear K0 Y0 S0 C0 LE0 K1 Y1 S1 C1 LE1 K2 Y2 S2 C2 LE2 K3 Y3 S3 C3 LE3 K4 Y4 S4 C4 LE4
        go_wp2
        go_loopw [13, 14, 57] (fun u13 u14 u57 wr => ∃ i : Nat, i ≤ m ∧ u57 = .int .i64 i ∧ Hid (Below wo.heap.size wo wr)) (fun _ _ u57 _ => m - (intOf u57).toNat)
        case atStart => exact ⟨0, by omega, rfl, Lib.hid (Below.refl _ _)⟩
        case round =>
          obtain ⟨i, hi, rfl, hbi⟩ := hrel
          by_cases hlt : i < m
          · have CL := Lib.hid (SS.out _ a4 c4 i (YY.out.mono hbi.out) (by omega) (by omega))
            go_wp2_with fail
            refine CL.out.mono ?_
            rintro e wz ⟨r1, r2, rfl, hb⟩
            have HB := Lib.hid (bt hbi.out hb)
            clear hb hbi CL
            go_wp2
            go_roundw
            case rel => exact ⟨i + 1, by omega, by go_num, HB⟩
            case measure => simp [intOf]; omega
          · go_wp2
            go_roundw
            case rel => exact ⟨5, by omega, by omega, by go_num, Lib.hid (bt hbe.out hbi.out)⟩
            case measure => simp [intOf]
      · go_wp2_with fail
        refine (sane _).mono ?_
        rintro e wz ⟨rfl, hb⟩
        go_wp2
        go_ret
        exact ⟨rfl, bt (bt B6.out hbe.out) hb⟩
end Go.Proofs.Ytlihndekeaefcaa
