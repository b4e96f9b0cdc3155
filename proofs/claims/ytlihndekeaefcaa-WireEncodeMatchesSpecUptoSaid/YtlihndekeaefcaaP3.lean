/- The law WireEncodeMatchesSpec, walked. -/
import Derived.Test.YtlihndekeaefcaaU
namespace Go.Proofs.Ytlihndekeaefcaa
set_option linter.unusedVariables false
set_option linter.unusedSimpArgs false
open Go.RowKit
set_option maxRecDepth 100000 in
set_option maxHeartbeats 4000000 in
theorem encodeMatches (n : Int) (s : ByteArray) (al ax ad : Option Addr) (cl cx cd : Nat) (l : List Int) (x : List ByteArray) (d : List (List Nat)) (w : World) (n1 : -9223372036854775808 ≤ n) (n2 : n ≤ 9223372036854775807)
    (hl : IntsA w al l) (hx : StrsA w ax x) (hd : DigsA w ad d) (hS : s.size + l.length + d.length ≤ 9223372036854775807) (hX : x.length + letters x ≤ 9223372036854775807) :
    Calls Try.prog 3 #[.int .i64 n, .string s, .slice al l.length cl, .slice ax x.length cx, .slice ad d.length cd] w fun e w' => e = .returned (.bool true) ∧ Below w.heap.size w w' := by
  have HL := Lib.hid hl; have HX := Lib.hid hx; have HD := Lib.hid hd
  clear hl hx hd
  by_cases h1 : 2000 < s.size + l.length + d.length
  · go_enter Try.func3, Try.ntmps3
    go_wp2_with fail
    refine (sane _).mono ?_
    rintro e w1 ⟨rfl, hb1⟩
    go_wp2
    go_ret
    exact ⟨rfl, hb1⟩
  by_cases h2 : 2000 < x.length + letters x
  · have F := few_any ax cx x w HX.out hX
    rw [decide_eq_false (by omega)] at F
    have FF := Lib.hid F
    clear F
    go_enter Try.func3, Try.ntmps3
    go_wp2_with fail
    refine FF.out.mono ?_
    rintro e w0 ⟨rfl, rfl⟩
    go_wp2_with fail
    refine (sane _).mono ?_
    rintro e w1 ⟨rfl, hb1⟩
    go_wp2
    go_ret
    exact ⟨rfl, hb1⟩
  · have F := few_any ax cx x w HX.out hX
    rw [decide_eq_true (by omega)] at F
    have FF := Lib.hid F
    clear F
    have LT1 := Lib.hid (enc_lt n); have LE1 := Lib.hid (show (enc n).length ≤ 1000000 from by have := (enc_len n n1 n2).2; omega)
    have LT2 := Lib.hid (encS_lt (sb s) (sb_lt s)); have LE2 := Lib.hid (show (encS (sb s)).length ≤ 1000000 from by have := encS_len (sb s) (by rw [sb_len]; omega); rw [sb_len] at this; omega)
    have LT3 := Lib.hid (encL_lt enc l (fun y _ => enc_lt y)); have LE3 := Lib.hid (show (encL enc l).length ≤ 1000000 from by have := encL_ints l HL.out.lt (by omega); omega)
    have LT4 := Lib.hid (encL_lt (fun s => encS (sb s)) x (fun y _ => encS_lt _ (sb_lt y))); have LE4 := Lib.hid (show (encL (fun s => encS (sb s)) x).length ≤ 1000000 from by have := encL_strs x (by omega); omega)
    have LT5 := Lib.hid (encL_lt id d (fun y hy => (HD.out.all y hy).2)); have LE5 := Lib.hid (show (encL id d).length ≤ 1000000 from by have := encL_digs d HD.out.all (by omega); omega)
    have I1 := Lib.hid (fun W : World => int_any n W n1 n2); have R1 := Lib.hid (fun W : World => intref_any n W n1 n2)
    have I2 := Lib.hid (fun W : World => bytes_any s W (by omega)); have R2 := Lib.hid (fun W : World => bytesref_any s W (by omega))
    have I3 := Lib.hid (fun (W : World) (h : IntsA W al l) => ints_any al cl l W h (by omega) LE3.out); have R3 := Lib.hid (fun (W : World) (h : IntsA W al l) => intsref_any al cl l W h (by omega) LE3.out)
    have SZ : ∀ k, (x.getD k ByteArray.empty).size ≤ 1000000 := fun k => Nat.le_trans (getD_size x (letters x) (letters_mem x) k) (by omega)
    have I4 := Lib.hid (fun (W : World) (h : StrsA W ax x) => strs_any ax cx x W h (by omega) LE4.out SZ); have R4 := Lib.hid (fun (W : World) (h : StrsA W ax x) => strsref_any ax cx x W h (by omega) LE4.out SZ)
    have I5 := Lib.hid (fun (W : World) (h : DigsA W ad d) => digests_any ad cd d W h (by omega) LE5.out); have R5 := Lib.hid (fun (W : World) (h : DigsA W ad d) => digsref_any ad cd d W h (by omega) LE5.out)
    clear SZ
    go_enter Try.func3, Try.ntmps3
    go_wp2_with fail
    refine FF.out.mono ?_
    rintro e w0 ⟨rfl, rfl⟩
    clear FF
    go_wp2_with fail
    refine (sane _).mono ?_
    rintro e w1 ⟨rfl, hb1⟩
    have B1 := Lib.hid hb1
    clear hb1
    go_wp2_with fail
    refine (I1.out w1).mono ?_
    rintro e w2 ⟨v, rfl, o, hb⟩
    obtain ⟨a1, c1, rfl, -, y⟩ := OwnB.view o LT1.out
    have Y := Lib.hid y
    have B2 := Lib.hid (bt B1.out hb)
    clear o hb y B1
    go_wp2_with fail
    refine (R1.out w2).mono ?_
    rintro e w3 ⟨v, rfl, o, hb⟩
    obtain ⟨a2, c2, rfl, -, y⟩ := OwnB.view o LT1.out
    have Z := Lib.hid y
    have Y := Lib.hid (Y.out.mono hb)
    have B3 := Lib.hid (bt B2.out hb)
    clear o hb y B2
    go_wp2_with fail
    refine (same_yes a1 a2 c1 c2 (enc n) w3 Y.out Z.out LE1.out).mono ?_
    rintro e wx ⟨rfl, rfl⟩
    clear Y Z LT1 LE1
    go_wp2_with fail
    refine (I2.out w3).mono ?_
    rintro e w4 ⟨v, rfl, o, hb⟩
    obtain ⟨a1, c1, rfl, -, y⟩ := OwnB.view o LT2.out
    have Y := Lib.hid y
    have B4 := Lib.hid (bt B3.out hb)
    clear o hb y B3
    go_wp2_with fail
    refine (R2.out w4).mono ?_
    rintro e w5 ⟨v, rfl, o, hb⟩
    obtain ⟨a2, c2, rfl, -, y⟩ := OwnB.view o LT2.out
    have Z := Lib.hid y
    have Y := Lib.hid (Y.out.mono hb)
    have B5 := Lib.hid (bt B4.out hb)
    clear o hb y B4
    go_wp2_with fail
    refine (same_yes a1 a2 c1 c2 (encS (sb s)) w5 Y.out Z.out LE2.out).mono ?_
    rintro e wx ⟨rfl, rfl⟩
    clear Y Z LT2 LE2
    go_wp2_with fail
    refine (I3.out _ (HL.out.mono B5.out)).mono ?_
    rintro e w6 ⟨v, rfl, o, hb⟩
    obtain ⟨a1, c1, rfl, -, y⟩ := OwnB.view o LT3.out
    have Y := Lib.hid y
    have B6 := Lib.hid (bt B5.out hb)
    clear o hb y B5
    go_wp2_with fail
    refine (R3.out _ (HL.out.mono B6.out)).mono ?_
    rintro e w7 ⟨v, rfl, o, hb⟩
    obtain ⟨a2, c2, rfl, -, y⟩ := OwnB.view o LT3.out
    have Z := Lib.hid y
    have Y := Lib.hid (Y.out.mono hb)
    have B7 := Lib.hid (bt B6.out hb)
    clear o hb y B6
    go_wp2_with fail
    refine (same_yes a1 a2 c1 c2 (encL enc l) w7 Y.out Z.out LE3.out).mono ?_
    rintro e wx ⟨rfl, rfl⟩
    clear Y Z LT3 LE3
    go_wp2_with fail
    refine (I4.out _ (HX.out.mono B7.out)).mono ?_
    rintro e w8 ⟨v, rfl, o, hb⟩
    obtain ⟨a1, c1, rfl, -, y⟩ := OwnB.view o LT4.out
    have Y := Lib.hid y
    have B8 := Lib.hid (bt B7.out hb)
    clear o hb y B7
    go_wp2_with fail
    refine (R4.out _ (HX.out.mono B8.out)).mono ?_
    rintro e w9 ⟨v, rfl, o, hb⟩
    obtain ⟨a2, c2, rfl, -, y⟩ := OwnB.view o LT4.out
    have Z := Lib.hid y
    have Y := Lib.hid (Y.out.mono hb)
    have B9 := Lib.hid (bt B8.out hb)
    clear o hb y B8
    go_wp2_with fail
    refine (same_yes a1 a2 c1 c2 (encL (fun s => encS (sb s)) x) w9 Y.out Z.out LE4.out).mono ?_
    rintro e wx ⟨rfl, rfl⟩
    clear Y Z LT4 LE4
    go_wp2_with fail
    refine (I5.out _ (HD.out.mono B9.out)).mono ?_
    rintro e w10 ⟨v, rfl, o, hb⟩
    obtain ⟨a1, c1, rfl, -, y⟩ := OwnB.view o LT5.out
    have Y := Lib.hid y
    have B10 := Lib.hid (bt B9.out hb)
    clear o hb y B9
    go_wp2_with fail
    refine (R5.out _ (HD.out.mono B10.out)).mono ?_
    rintro e w11 ⟨v, rfl, o, hb⟩
    obtain ⟨a2, c2, rfl, -, y⟩ := OwnB.view o LT5.out
    have Z := Lib.hid y
    have Y := Lib.hid (Y.out.mono hb)
    have B11 := Lib.hid (bt B10.out hb)
    clear o hb y B10
    go_wp2_with fail
    refine (same_yes a1 a2 c1 c2 (encL id d) w11 Y.out Z.out LE5.out).mono ?_
    rintro e wx ⟨rfl, rfl⟩
    clear Y Z LT5 LE5
    go_wp2
    go_ret
    exact ⟨rfl, B11.out⟩
end Go.Proofs.Ytlihndekeaefcaa
