/- The law WireListRoundTrip, walked. -/
import Derived.Test.YtlihndekeaefcaaU
namespace Go.Proofs.Ytlihndekeaefcaa
set_option linter.unusedVariables false
set_option linter.unusedSimpArgs false
open Go.RowKit
set_option maxRecDepth 100000 in
set_option maxHeartbeats 8000000 in
theorem listRoundTrip (s : ByteArray) (al ax ad b : Option Addr) (cl cx cd cb : Nat) (l : List Int) (x : List ByteArray) (d : List (List Nat)) (t : List Nat) (w : World)
    (hl : IntsA w al l) (hx : StrsA w ax x) (hd : DigsA w ad d) (ht : BytesA w b t) (hS : s.size + l.length + d.length + t.length ≤ 9223372036854775807) (hX : x.length + letters x ≤ 9223372036854775807) :
    Calls Try.prog 8 #[.string s, .slice al l.length cl, .slice ax x.length cx, .slice ad d.length cd, .slice b t.length cb] w fun e w' => e = .returned (.bool true) ∧ Below w.heap.size w w' := by
  have HL := Lib.hid hl; have HX := Lib.hid hx; have HD := Lib.hid hd; have HT := Lib.hid ht
  clear hl hx hd ht
  by_cases h1 : 2000 < s.size + l.length + d.length + t.length
  · go_enter Try.func8, Try.ntmps8
    go_wp2_with fail
    refine (sane _).mono ?_
    rintro e w1 ⟨rfl, hb1⟩
    go_wp2
    go_ret
    exact ⟨rfl, hb1⟩
  by_cases h2 : 2000 < x.length + letters x
  · have F := few_any ax cx x w HX.out hX
    rw [decide_eq_false (by omega)] at F
    have FF := Lib.hid F
    clear F
    go_enter Try.func8, Try.ntmps8
    go_wp2_with fail
    refine FF.out.mono ?_
    rintro e w0 ⟨rfl, rfl⟩
    go_wp2_with fail
    refine (sane _).mono ?_
    rintro e w1 ⟨rfl, hb1⟩
    go_wp2
    go_ret
    exact ⟨rfl, hb1⟩
  · have F := few_any ax cx x w HX.out hX
    rw [decide_eq_true (by omega)] at F
    have FF := Lib.hid F
    clear F
    have lt1 := encS_lt (sb s) (sb_lt s); have le1 : (encS (sb s)).length ≤ 100000 := by have := encS_len (sb s) (by rw [sb_len]; omega); rw [sb_len] at this; omega
    have lt2 := encL_lt enc l (fun y _ => enc_lt y); have le2 : (encL enc l).length ≤ 100000 := by have := encL_ints l HL.out.lt (by omega); omega
    have lt4 := encL_lt (fun s => encS (sb s)) x (fun y _ => encS_lt _ (sb_lt y)); have le4 : (encL (fun s => encS (sb s)) x).length ≤ 100000 := by have := encL_strs x (by omega); omega
    have lt3 := encL_lt id d (fun y hy => (HD.out.all y hy).2); have le3 : (encL id d).length ≤ 100000 := by have := encL_digs d HD.out.all (by omega); omega
    have SZ : ∀ y ∈ x, y.size ≤ 1000000 := fun y hy => by have := letters_mem x y hy; omega
    have i1 := fun W : World => bytes_any s W (by omega)
    have i2 := fun (W : World) (h : IntsA W al l) => ints_any al cl l W h (by omega) (by omega)
    have i4 := fun (W : World) (h : StrsA W ax x) => strs_any ax cx x W h (by omega) (by omega) (fun k => getD_size x 1000000 SZ k)
    have i3 := fun (W : World) (h : DigsA W ad d) => digests_any ad cd d W h (by omega) (by omega)
    have r1 := GB_rt (sb s) t (by rw [sb_len]; omega)
    have r2 := DL_rt (D := G) (f := enc) 1 l t (by decide) (by omega) (fun y hy => rt_enc y (HL.out.lt y hy).1 (HL.out.lt y hy).2) (fun y _ => int_pos y)
    have r4 := DL_rt (D := GBs) (f := (fun s => encS (sb s))) 1 x t (by decide) (by omega) (fun y hy => rt_str y (SZ y hy)) (fun y _ => encS_pos _)
    have r3 := DL_rt (D := GD) (f := id) 16 d t (by decide) (by omega) (fun y hy => rt_dig y (HD.out.all y hy).1) (fun y hy => by show 16 ≤ y.length; rw [(HD.out.all y hy).1]; exact Nat.le_refl _)
    obtain ⟨L1, e1⟩ : ∃ L, encS (sb s) = L := ⟨_, rfl⟩
    obtain ⟨L2, e2⟩ : ∃ L, encL enc l = L := ⟨_, rfl⟩
    obtain ⟨L3, e3⟩ : ∃ L, encL id d = L := ⟨_, rfl⟩
    obtain ⟨L4, e4⟩ : ∃ L, encL (fun s => encS (sb s)) x = L := ⟨_, rfl⟩
    rw [e1] at lt1 le1 i1 r1
    rw [e2] at lt2 le2 i2 r2
    rw [e3] at lt3 le3 i3 r3
    rw [e4] at lt4 le4 i4 r4
    have LT1 := Lib.hid lt1; have I1 := Lib.hid i1; have RT1 := Lib.hid r1; have LE1 := Lib.hid (show L1.length ≤ 1000000 by omega)
    have LT2 := Lib.hid lt2; have I2 := Lib.hid i2; have RT2 := Lib.hid r2; have LE2 := Lib.hid (show L2.length ≤ 1000000 by omega)
    have LT3 := Lib.hid lt3; have I3 := Lib.hid i3; have RT3 := Lib.hid r3; have LE3 := Lib.hid (show L3.length ≤ 1000000 by omega)
    have LT4 := Lib.hid lt4; have I4 := Lib.hid i4; have RT4 := Lib.hid r4; have LE4 := Lib.hid (show L4.length ≤ 1000000 by omega)
    clear lt1 lt2 lt3 lt4 i1 i2 i3 i4 r1 r2 r3 r4 e1 e2 e3 e4 SZ
    go_enter Try.func8, Try.ntmps8
    go_wp2_with fail
    refine FF.out.mono ?_
    rintro e w0 ⟨rfl, rfl⟩
    clear FF
    have B0 := Lib.hid (Below.refl w.heap.size w)
    go_wp2_with fail
    refine (I1.out _).mono ?_
    rintro e w1 ⟨v, rfl, o, hb⟩
    obtain ⟨a1, c1, rfl, hcap1, y⟩ := OwnB.view o LT1.out
    have Y1 := Lib.hid y
    have B1 := Lib.hid (bt B0.out hb)
    clear o hb y B0 I1 LT1
    go_wp2_with fail
    refine (I2.out _ (HL.out.mono B1.out)).mono ?_
    rintro e w2 ⟨v, rfl, o, hb⟩
    obtain ⟨a2, c2, rfl, hcap2, y⟩ := OwnB.view o LT2.out
    have Y1 := Lib.hid (Y1.out.mono hb)
    have Y2 := Lib.hid y
    have B2 := Lib.hid (bt B1.out hb)
    clear o hb y B1 I2 LT2
    go_wp2_with fail
    refine (I3.out _ (HD.out.mono B2.out)).mono ?_
    rintro e w3 ⟨v, rfl, o, hb⟩
    obtain ⟨a3, c3, rfl, hcap3, y⟩ := OwnB.view o LT3.out
    have Y1 := Lib.hid (Y1.out.mono hb)
    have Y2 := Lib.hid (Y2.out.mono hb)
    have Y3 := Lib.hid y
    have B3 := Lib.hid (bt B2.out hb)
    clear o hb y B2 I3 LT3
    go_wp2_with fail
    refine (I4.out _ (HX.out.mono B3.out)).mono ?_
    rintro e w4 ⟨v, rfl, o, hb⟩
    obtain ⟨a4, c4, rfl, hcap4, y⟩ := OwnB.view o LT4.out
    have Y1 := Lib.hid (Y1.out.mono hb)
    have Y2 := Lib.hid (Y2.out.mono hb)
    have Y3 := Lib.hid (Y3.out.mono hb)
    have Y4 := Lib.hid y
    have B4 := Lib.hid (bt B3.out hb)
    clear o hb y B3 I4 LT4
    go_wp2_with (at_builtin; refine wpAppC rfl _ _ rfl a1 b cb L1 t L1.length t.length rfl rfl rfl rfl Y1.out (HT.out.mono B4.out) LE1.out (by omega) ?_)
    intro p cp w5 hcp yp hb
    have hc := getBytes_any p cp (L1 ++ t) w5 (by rw [List.length_append]; exact hcp) yp (by rw [List.length_append]; have := LE1.out; omega)
    unfold GBV at hc
    rw [RT1.out, strB_sb, List.length_append] at hc
    have Y2 := Lib.hid (Y2.out.mono hb)
    have Y3 := Lib.hid (Y3.out.mono hb)
    have Y4 := Lib.hid (Y4.out.mono hb)
    have B5 := Lib.hid (bt B4.out hb)
    have HC := Lib.hid hc
    clear hc hb yp hcp B4 Y1 RT1 LE1
    (try simp only [List.length_append])
    go_wp2_with fail
    refine HC.out.mono ?_
    rintro e wx ⟨rfl, rfl⟩
    clear HC
    go_wp2_with (at_builtin; refine wpAppC rfl _ _ rfl a2 b cb L2 t L2.length t.length rfl rfl rfl rfl Y2.out (HT.out.mono B5.out) LE2.out (by omega) ?_)
    intro p cp w6 hcp yp hb
    have hc := getInts_any p cp (L2 ++ t) w6 (by rw [List.length_append]; exact hcp) yp (by rw [List.length_append]; have := LE2.out; omega)
    rw [RT2.out, List.length_append] at hc
    have Y3 := Lib.hid (Y3.out.mono hb)
    have Y4 := Lib.hid (Y4.out.mono hb)
    have B6 := Lib.hid (bt B5.out hb)
    have HC := Lib.hid hc
    clear hc hb yp hcp B5 Y2 RT2 LE2
    (try simp only [List.length_append])
    go_wp2_with fail
    refine HC.out.mono ?_
    rintro e w7 ⟨v, rfl, o, hb⟩
    obtain ⟨r2, q2, rfl, -, y⟩ := OwnI.view o HL.out.lt
    have Y3 := Lib.hid (Y3.out.mono hb)
    have Y4 := Lib.hid (Y4.out.mono hb)
    have R2 := Lib.hid y
    have B7 := Lib.hid (bt B6.out hb)
    clear o hb y B6 HC
    go_wp2_with (at_builtin; refine wpAppC rfl _ _ rfl a3 b cb L3 t L3.length t.length rfl rfl rfl rfl Y3.out (HT.out.mono B7.out) LE3.out (by omega) ?_)
    intro p cp w8 hcp yp hb
    have hc := getDigests_any p cp (L3 ++ t) w8 (by rw [List.length_append]; exact hcp) yp (by rw [List.length_append]; have := LE3.out; omega)
    rw [RT3.out, List.length_append] at hc
    have Y4 := Lib.hid (Y4.out.mono hb)
    have R2 := Lib.hid (R2.out.mono hb)
    have B8 := Lib.hid (bt B7.out hb)
    have HC := Lib.hid hc
    clear hc hb yp hcp B7 Y3 RT3 LE3
    (try simp only [List.length_append])
    go_wp2_with fail
    refine HC.out.mono ?_
    rintro e w9 ⟨v, rfl, o, hb⟩
    obtain ⟨r3, q3, rfl, -, y⟩ := OwnG.view o (fun d hd => (HD.out.all d hd).1) (fun d hd => (HD.out.all d hd).2)
    have Y4 := Lib.hid (Y4.out.mono hb)
    have R2 := Lib.hid (R2.out.mono hb)
    have R3 := Lib.hid y
    have B9 := Lib.hid (bt B8.out hb)
    clear o hb y B8 HC
    go_wp2_with (at_builtin; refine wpAppC rfl _ _ rfl a4 b cb L4 t L4.length t.length rfl rfl rfl rfl Y4.out (HT.out.mono B9.out) LE4.out (by omega) ?_)
    intro p cp w10 hcp yp hb
    have hc := getStrings_any p cp (L4 ++ t) w10 (by rw [List.length_append]; exact hcp) yp (by rw [List.length_append]; have := LE4.out; omega)
    rw [RT4.out, List.length_append] at hc
    have R2 := Lib.hid (R2.out.mono hb)
    have R3 := Lib.hid (R3.out.mono hb)
    have B10 := Lib.hid (bt B9.out hb)
    have HC := Lib.hid hc
    clear hc hb yp hcp B9 Y4 RT4 LE4
    (try simp only [List.length_append])
    go_wp2_with fail
    refine HC.out.mono ?_
    rintro e w11 ⟨v, rfl, o, hb⟩
    obtain ⟨r4, q4, rfl, -, y⟩ := OwnS.view o
    have R2 := Lib.hid (R2.out.mono hb)
    have R3 := Lib.hid (R3.out.mono hb)
    have R4 := Lib.hid y
    have B11 := Lib.hid (bt B10.out hb)
    clear o hb y B10 HC
    go_wp2_with fail
    refine (sane _).mono ?_
    rintro e w12 ⟨rfl, hb⟩
    have R2 := Lib.hid (R2.out.mono hb)
    have R3 := Lib.hid (R3.out.mono hb)
    have R4 := Lib.hid (R4.out.mono hb)
    have B12 := Lib.hid (bt B11.out hb)
    clear hb B11
    go_wp2_with fail
    refine (sameTexts_yes x r4 ax q4 cx w12 R4.out (HX.out.mono B12.out) (by omega)).mono ?_
    rintro e w13 ⟨rfl, hb⟩
    have R2 := Lib.hid (R2.out.mono hb)
    have R3 := Lib.hid (R3.out.mono hb)
    have B13 := Lib.hid (bt B12.out hb)
    clear hb B12 R4
    go_wp2_with fail
    refine (sameInts_yes l r2 al q2 cl w13 R2.out (HL.out.mono B13.out) (by omega)).mono ?_
    rintro e w14 ⟨rfl, hb⟩
    have R3 := Lib.hid (R3.out.mono hb)
    have B14 := Lib.hid (bt B13.out hb)
    clear hb B13 R2
    go_wp2_with fail
    refine (sameDigs_yes d r3 ad q3 cd w14 R3.out (HD.out.mono B14.out) (by omega)).mono ?_
    rintro e w15 ⟨rfl, hb⟩
    have B15 := Lib.hid (bt B14.out hb)
    clear hb B14 R3
    go_wp2
    go_ret
    exact ⟨rfl, B15.out⟩
end Go.Proofs.Ytlihndekeaefcaa
