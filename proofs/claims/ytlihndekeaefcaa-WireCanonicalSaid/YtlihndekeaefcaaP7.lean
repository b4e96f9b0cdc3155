/- The law WireCanonical, walked. -/
import Derived.Test.YtlihndekeaefcaaV
namespace Go.Proofs.Ytlihndekeaefcaa
set_option linter.unusedVariables false
set_option linter.unusedSimpArgs false
open Go.RowKit
set_option maxRecDepth 100000 in
set_option maxHeartbeats 4000000 in
theorem canonical (a : Option Addr) (cap : Nat) (l : List Nat) (w : World) (hp : BytesA w a l) (hc : l.length ≤ cap) (hm : l.length ≤ 9223372036854775807) :
    Calls Try.prog 7 #[.slice a l.length cap] w fun e w' => e = .returned (.bool true) ∧ Below w.heap.size w w' := by
  have HP := Lib.hid hp; clear hp
  by_cases hlt : 2000 < l.length
  · go_enter Try.func7, Try.ntmps7
    go_wp2_with fail
    refine (sane _).mono ?_
    rintro e w1 ⟨rfl, hb1⟩
    go_wp2
    go_ret
    exact ⟨rfl, hb1⟩
  · have lt := HP.out.lt
    -- GetInt
    obtain ⟨b1, b2, b3, b4, b5⟩ := G_bd lt
    have on1 := only_enc l lt
    unfold Only at on1
    have C1 := fun (W : World) (h : BytesA W a l) => getInt_any a cap l W h (by omega)
    obtain ⟨n1, u1, e1, hG1⟩ : ∃ n u e, G l = (n, u, e) := ⟨_, _, _, rfl⟩
    simp only [hG1] at b1 b2 b3 b4 b5 on1
    rw [val_gv hG1] at C1
    have p1 := (enc_len n1 b1 b2).2
    -- GetBytes
    have bd2 := GB_bd lt (by omega)
    have on2 := GB_only l lt
    have sz2 := GB_size l
    have lt2 : ∀ x ∈ (GB l).1, x < 256 := by
      intro x hx
      unfold GB at hx
      split at hx
      · cases hx
      · exact lt _ (List.mem_of_mem_drop (List.mem_of_mem_take hx))
    have C2 := fun (W : World) (h : BytesA W a l) => getBytes_any a cap l W hc h (by omega)
    unfold GBV at C2
    obtain ⟨s2, u2, e2, hG2⟩ : ∃ n u e, GB l = (n, u, e) := ⟨_, _, _, rfl⟩
    rw [hG2] at bd2 on2 C2 sz2 lt2
    simp only at bd2 on2 C2 sz2 lt2
    have p2 := encS_len s2 (by omega)
    have sb2 := sb_strB s2 lt2
    have D2 := fun W : World => bytes_any (strB s2) W (by rw [strB_size]; omega)
    rw [sb2] at D2
    -- GetInts
    have bd3 := ints_read l lt
    obtain ⟨q3, on3⟩ := DL_enc (D := G) (f := enc) 1 l lt (fun m => only_enc _ (drop_lt lt m))
    have C3 := fun (W : World) (h : BytesA W a l) => getInts_any a cap l W hc h (by omega)
    obtain ⟨x3, u3, e3, hG3⟩ : ∃ n u e, DL G 1 l = (n, u, e) := ⟨_, _, _, rfl⟩
    rw [hG3] at bd3 q3 on3 C3
    simp only at bd3 q3 on3 C3
    have z3 := encL_cnt (f := enc) x3 (fun x _ => int_pos x)
    -- GetStrings
    have bd4 := strs_read l
    obtain ⟨q4, on4⟩ := DL_enc (D := GBs) (f := fun s => encS (sb s)) 1 l lt (fun m => only_str _ (drop_lt lt m))
    have C4 := fun (W : World) (h : BytesA W a l) => getStrings_any a cap l W hc h (by omega)
    obtain ⟨x4, u4, e4, hG4⟩ : ∃ n u e, DL GBs 1 l = (n, u, e) := ⟨_, _, _, rfl⟩
    rw [hG4] at bd4 q4 on4 C4
    simp only at bd4 q4 on4 C4
    have z4 := encL_cnt (f := fun s => encS (sb s)) x4 (fun x _ => encS_pos _)
    -- GetDigests
    have bd5 := digs_read l lt
    obtain ⟨q5, on5⟩ := DL_enc (D := GD) (f := id) 16 l lt (fun m => only_dig _)
    have C5 := fun (W : World) (h : BytesA W a l) => getDigests_any a cap l W hc h (by omega)
    obtain ⟨x5, u5, e5, hG5⟩ : ∃ n u e, DL GD 16 l = (n, u, e) := ⟨_, _, _, rfl⟩
    rw [hG5] at bd5 q5 on5 C5
    simp only at bd5 q5 on5 C5
    have z5 := encL_cnt (f := id) x5 (fun x hx => by show 1 ≤ x.length; rw [(bd5 x hx).1]; decide)
    have HT3 := Lib.hid (fun (W : World) a3 c3 (h : IntsA W a3 x3) => ints_any a3 c3 x3 W h (by omega) (by omega))
    have HT4 := Lib.hid (fun (W : World) a4 c4 (h : StrsA W a4 x4) => strs_any a4 c4 x4 W h (by omega) (by omega) (fun k => Nat.le_trans (getD_size x4 _ bd4 k) (by omega)))
    have HT5 := Lib.hid (fun (W : World) a5 c5 (h : DigsA W a5 x5) => digests_any a5 c5 x5 W h (by omega) (by omega))
    have HT1 := Lib.hid (fun W : World => int_any n1 W b1 b2)
    have HT2 := Lib.hid D2
    have BD3 := Lib.hid bd3; have BD5 := Lib.hid bd5
    have K1 := Lib.hid (fun (W : World) a c cc (h1 : BytesA W a l) (h2 : BytesA W c (enc n1)) => consumed_yes a c cap cc l (enc n1) u1 e1 W h1 h2 hc (by omega) (by omega) (fun h => ⟨(on1 h).1, (on1 h).2⟩))
    have K2 := Lib.hid (fun (W : World) a c cc (h1 : BytesA W a l) (h2 : BytesA W c (encS s2)) => consumed_yes a c cap cc l (encS s2) u2 e2 W h1 h2 hc (by omega) (by omega) on2)
    have K3 := Lib.hid (fun (W : World) a c cc (h1 : BytesA W a l) (h2 : BytesA W c (encL enc x3)) => consumed_yes a c cap cc l (encL enc x3) u3 e3 W h1 h2 hc (by omega) (by omega) on3)
    have K4 := Lib.hid (fun (W : World) a c cc (h1 : BytesA W a l) (h2 : BytesA W c (encL (fun s => encS (sb s)) x4)) => consumed_yes a c cap cc l (encL (fun s => encS (sb s)) x4) u4 e4 W h1 h2 hc (by omega) (by omega) on4)
    have K5 := Lib.hid (fun (W : World) a c cc (h1 : BytesA W a l) (h2 : BytesA W c (encL id x5)) => consumed_yes a c cap cc l (encL id x5) u5 e5 W h1 h2 hc (by omega) (by omega) on5)
    have L1 := Lib.hid (enc_lt n1); have L2 := Lib.hid (encS_lt s2 lt2)
    have L3 := Lib.hid (encL_lt enc x3 (fun y _ => enc_lt y))
    have L4 := Lib.hid (encL_lt (fun s => encS (sb s)) x4 (fun y _ => encS_lt _ (sb_lt y)))
    have L5 := Lib.hid (encL_lt id x5 (fun y hy => (bd5 y hy).2))
    have HC1 := Lib.hid C1; have HC2 := Lib.hid C2; have HC3 := Lib.hid C3; have HC4 := Lib.hid C4; have HC5 := Lib.hid C5
    clear C1 C2 C3 C4 C5 D2 on1 on2 on3 on4 on5 bd3 bd4 bd5 lt2 lt sb2 hG1 hG2 hG3 hG4 hG5 z3 z4 z5 q3 q4 q5 p1 p2 sz2 bd2 b1 b2 b3 b4 b5
    go_enter Try.func7, Try.ntmps7
    go_wp2_with fail
    refine (HC1.out _ HP.out).mono ?_
    rintro e w1 ⟨rfl, rfl⟩
    go_wp2_with fail
    refine (HC2.out _ HP.out).mono ?_
    rintro e w2 ⟨rfl, rfl⟩
    go_wp2_with fail
    refine (HC3.out _ HP.out).mono ?_
    rintro e w3 ⟨v3, rfl, o3, hb3⟩
    obtain ⟨a3, c3, rfl, -, y3⟩ := OwnI.view o3 BD3.out
    have Y3 := Lib.hid y3
    have B3 := Lib.hid hb3
    clear o3 hb3 y3
    go_wp2_with fail
    refine (HC4.out _ (HP.out.mono B3.out)).mono ?_
    rintro e w4 ⟨v4, rfl, o4, hb4⟩
    obtain ⟨a4, c4, rfl, -, y4⟩ := OwnS.view o4
    have Y4 := Lib.hid y4
    have Y3 := Lib.hid (Y3.out.mono hb4)
    have B4 := Lib.hid (bt B3.out hb4)
    clear o4 hb4 y4 B3
    go_wp2_with fail
    refine (HC5.out _ (HP.out.mono B4.out)).mono ?_
    rintro e w5 ⟨v5, rfl, o5, hb5⟩
    obtain ⟨a5, c5, rfl, -, y5⟩ := OwnG.view o5 (fun d hd => (BD5.out d hd).1) (fun d hd => (BD5.out d hd).2)
    have Y5 := Lib.hid y5
    have Y4 := Lib.hid (Y4.out.mono hb5)
    have Y3 := Lib.hid (Y3.out.mono hb5)
    have B5 := Lib.hid (bt B4.out hb5)
    clear o5 hb5 y5 B4
    go_wp2_with fail
    refine (sane _).mono ?_
    rintro e w6 ⟨rfl, hb6⟩
    have Y5 := Lib.hid (Y5.out.mono hb6)
    have Y4 := Lib.hid (Y4.out.mono hb6)
    have Y3 := Lib.hid (Y3.out.mono hb6)
    have B6 := Lib.hid (bt B5.out hb6)
    clear hb6 B5
    go_wp2_with fail
    refine (HT1.out w6).mono ?_
    rintro e w7 ⟨v, rfl, o, hb⟩
    obtain ⟨a0, c0, rfl, -, y⟩ := OwnB.view o L1.out
    have Y0 := Lib.hid y
    have Y3 := Lib.hid (Y3.out.mono hb)
    have Y4 := Lib.hid (Y4.out.mono hb)
    have Y5 := Lib.hid (Y5.out.mono hb)
    have B7 := Lib.hid (bt B6.out hb)
    clear o hb y B6
    go_wp2_with fail
    refine (K1.out w7 a a0 c0 (HP.out.mono B7.out) Y0.out).mono ?_
    rintro e wx ⟨rfl, rfl⟩
    clear Y0 K1
    go_wp2_with fail
    refine (HT2.out w7).mono ?_
    rintro e w8 ⟨v, rfl, o, hb⟩
    obtain ⟨a0, c0, rfl, -, y⟩ := OwnB.view o L2.out
    have Y0 := Lib.hid y
    have Y3 := Lib.hid (Y3.out.mono hb)
    have Y4 := Lib.hid (Y4.out.mono hb)
    have Y5 := Lib.hid (Y5.out.mono hb)
    have B8 := Lib.hid (bt B7.out hb)
    clear o hb y B7
    go_wp2_with fail
    refine (K2.out w8 a a0 c0 (HP.out.mono B8.out) Y0.out).mono ?_
    rintro e wx ⟨rfl, rfl⟩
    clear Y0 K2
    go_wp2_with fail
    refine (HT3.out w8 a3 c3 Y3.out).mono ?_
    rintro e w9 ⟨v, rfl, o, hb⟩
    obtain ⟨a0, c0, rfl, -, y⟩ := OwnB.view o L3.out
    have Y0 := Lib.hid y
    have Y4 := Lib.hid (Y4.out.mono hb)
    have Y5 := Lib.hid (Y5.out.mono hb)
    have B9 := Lib.hid (bt B8.out hb)
    clear o hb y B8
    go_wp2_with fail
    refine (K3.out w9 a a0 c0 (HP.out.mono B9.out) Y0.out).mono ?_
    rintro e wx ⟨rfl, rfl⟩
    clear Y0 K3
    go_wp2_with fail
    refine (HT4.out w9 a4 c4 Y4.out).mono ?_
    rintro e w10 ⟨v, rfl, o, hb⟩
    obtain ⟨a0, c0, rfl, -, y⟩ := OwnB.view o L4.out
    have Y0 := Lib.hid y
    have Y5 := Lib.hid (Y5.out.mono hb)
    have B10 := Lib.hid (bt B9.out hb)
    clear o hb y B9
    go_wp2_with fail
    refine (K4.out w10 a a0 c0 (HP.out.mono B10.out) Y0.out).mono ?_
    rintro e wx ⟨rfl, rfl⟩
    clear Y0 K4
    go_wp2_with fail
    refine (HT5.out w10 a5 c5 Y5.out).mono ?_
    rintro e w11 ⟨v, rfl, o, hb⟩
    obtain ⟨a0, c0, rfl, -, y⟩ := OwnB.view o L5.out
    have Y0 := Lib.hid y
    have B11 := Lib.hid (bt B10.out hb)
    clear o hb y B10
    go_wp2_with fail
    refine (K5.out w11 a a0 c0 (HP.out.mono B11.out) Y0.out).mono ?_
    rintro e wx ⟨rfl, rfl⟩
    clear Y0 K5
    go_wp2
    go_ret
    exact ⟨rfl, B11.out⟩
end Go.Proofs.Ytlihndekeaefcaa
