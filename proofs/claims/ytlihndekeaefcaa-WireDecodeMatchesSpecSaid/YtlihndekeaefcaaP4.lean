/- The law WireDecodeMatchesSpec, walked. -/
import Derived.Test.YtlihndekeaefcaaU
namespace Go.Proofs.Ytlihndekeaefcaa
set_option linter.unusedVariables false
set_option linter.unusedSimpArgs false
open Go.RowKit
set_option maxRecDepth 100000 in
set_option maxHeartbeats 4000000 in
theorem decodeMatches (a : Option Addr) (cap : Nat) (l : List Nat) (w : World) (hp : BytesA w a l) (hc : l.length ≤ cap) (hm : l.length ≤ 9223372036854775807) :
    Calls Try.prog 4 #[.slice a l.length cap] w fun e w' => e = .returned (.bool true) ∧ Below w.heap.size w w' := by
  have HP := Lib.hid hp; clear hp
  by_cases hlt : 2000 < l.length
  · go_enter Try.func4, Try.ntmps4
    go_wp2_with fail
    refine (sane _).mono ?_
    rintro e w1 ⟨rfl, hb1⟩
    go_wp2
    go_ret
    exact ⟨rfl, hb1⟩
  · have lt := HP.out.lt
    have C1 := fun (W : World) (h : BytesA W a l) => getInt_any a cap l W h (by omega)
    have R1 := fun (W : World) (h : BytesA W a l) => getIntref_any a cap l W h (by omega)
    obtain ⟨n1, u1, e1, hG1⟩ : ∃ n u e, G l = (n, u, e) := ⟨_, _, _, rfl⟩
    rw [val_gv hG1] at C1 R1
    have C2 := fun (W : World) (h : BytesA W a l) => getBytes_any a cap l W hc h (by omega)
    have R2 := fun (W : World) (h : BytesA W a l) => getBytesref_any a cap l W hc h (by omega)
    unfold GBV at C2 R2
    obtain ⟨s2, u2, e2, hG2⟩ : ∃ n u e, GB l = (n, u, e) := ⟨_, _, _, rfl⟩
    rw [hG2] at C2 R2
    simp only at C2 R2
    obtain ⟨S2, hS2⟩ : ∃ S, strB s2 = S := ⟨_, rfl⟩
    rw [hS2] at C2 R2
    have bd3 := ints_read l lt
    have q3 := (DL_enc (D := G) (f := enc) 1 l lt (fun m => only_enc _ (drop_lt lt m))).1
    have C3 := fun (W : World) (h : BytesA W a l) => getInts_any a cap l W hc h (by omega)
    have R3 := fun (W : World) (h : BytesA W a l) => getIntsref_any a cap l W hc h (by omega)
    obtain ⟨x3, u3, e3, hG3⟩ : ∃ n u e, DL G 1 l = (n, u, e) := ⟨_, _, _, rfl⟩
    rw [hG3] at bd3 q3 C3 R3
    simp only at bd3 q3 C3 R3
    have z3 := encL_cnt (f := enc) x3 (fun x _ => int_pos x)
    have LE3 := Lib.hid (show x3.length ≤ 1000000000 by omega)
    have BD3 := Lib.hid bd3
    have bd4 := strs_read l
    have q4 := (DL_enc (D := GBs) (f := (fun s => encS (sb s))) 1 l lt (fun m => only_str _ (drop_lt lt m))).1
    have C4 := fun (W : World) (h : BytesA W a l) => getStrings_any a cap l W hc h (by omega)
    have R4 := fun (W : World) (h : BytesA W a l) => getStringsref_any a cap l W hc h (by omega)
    obtain ⟨x4, u4, e4, hG4⟩ : ∃ n u e, DL GBs 1 l = (n, u, e) := ⟨_, _, _, rfl⟩
    rw [hG4] at bd4 q4 C4 R4
    simp only at bd4 q4 C4 R4
    have z4 := encL_cnt (f := (fun s => encS (sb s))) x4 (fun x _ => encS_pos _)
    have LE4 := Lib.hid (show x4.length ≤ 1000000000 by omega)
    have BD4 := Lib.hid bd4
    have bd5 := digs_read l lt
    have q5 := (DL_enc (D := GD) (f := id) 16 l lt (fun m => only_dig _)).1
    have C5 := fun (W : World) (h : BytesA W a l) => getDigests_any a cap l W hc h (by omega)
    have R5 := fun (W : World) (h : BytesA W a l) => getDigestsref_any a cap l W hc h (by omega)
    obtain ⟨x5, u5, e5, hG5⟩ : ∃ n u e, DL GD 16 l = (n, u, e) := ⟨_, _, _, rfl⟩
    rw [hG5] at bd5 q5 C5 R5
    simp only at bd5 q5 C5 R5
    have z5 := encL_cnt (f := id) x5 (fun x hx => by show 1 ≤ x.length; rw [(bd5 x hx).1]; decide)
    have LE5 := Lib.hid (show x5.length ≤ 1000000000 by omega)
    have BD5 := Lib.hid bd5
    have HC1 := Lib.hid C1; have HR1 := Lib.hid R1
    have HC2 := Lib.hid C2; have HR2 := Lib.hid R2
    have HC3 := Lib.hid C3; have HR3 := Lib.hid R3
    have HC4 := Lib.hid C4; have HR4 := Lib.hid R4
    have HC5 := Lib.hid C5; have HR5 := Lib.hid R5
    clear C1 R1 C2 R2 C3 R3 C4 R4 C5 R5 bd3 bd4 bd5 q3 q4 q5 z3 z4 z5 hG1 hG2 hG3 hG4 hG5 hS2 lt
    go_enter Try.func4, Try.ntmps4
    go_wp2_with fail
    refine (HC1.out _ HP.out).mono ?_
    rintro e wx ⟨rfl, rfl⟩
    go_wp2_with fail
    refine (HR1.out _ HP.out).mono ?_
    rintro e wx ⟨rfl, rfl⟩
    go_wp2_with fail
    refine (HC2.out _ HP.out).mono ?_
    rintro e wx ⟨rfl, rfl⟩
    go_wp2_with fail
    refine (HR2.out _ HP.out).mono ?_
    rintro e wx ⟨rfl, rfl⟩
    have B0 := Lib.hid (Below.refl w.heap.size w)
    go_wp2_with fail
    refine (HC3.out _ (HP.out.mono B0.out)).mono ?_
    rintro e w1 ⟨v, rfl, o, hb⟩
    obtain ⟨a1, c1, rfl, -, y⟩ := OwnI.view o BD3.out
    have Y := Lib.hid y
    have B1 := Lib.hid (bt B0.out hb)
    clear o hb y B0
    go_wp2_with fail
    refine (HR3.out _ (HP.out.mono B1.out)).mono ?_
    rintro e w2 ⟨v, rfl, o, hb⟩
    obtain ⟨a2, c2, rfl, -, y⟩ := OwnI.view o BD3.out
    have Z := Lib.hid y
    have Y := Lib.hid (Y.out.mono hb)
    have B2 := Lib.hid (bt B1.out hb)
    clear o hb y B1
    go_wp2_with fail
    refine (sameInts_yes x3 a1 a2 c1 c2 w2 Y.out Z.out LE3.out).mono ?_
    rintro e w3 ⟨rfl, hb⟩
    have B3 := Lib.hid (bt B2.out hb)
    clear hb Y Z B2
    go_wp2_with fail
    refine (HC4.out _ (HP.out.mono B3.out)).mono ?_
    rintro e w4 ⟨v, rfl, o, hb⟩
    obtain ⟨a1, c1, rfl, -, y⟩ := OwnS.view o
    have Y := Lib.hid y
    have B4 := Lib.hid (bt B3.out hb)
    clear o hb y B3
    go_wp2_with fail
    refine (HR4.out _ (HP.out.mono B4.out)).mono ?_
    rintro e w5 ⟨v, rfl, o, hb⟩
    obtain ⟨a2, c2, rfl, -, y⟩ := OwnS.view o
    have Z := Lib.hid y
    have Y := Lib.hid (Y.out.mono hb)
    have B5 := Lib.hid (bt B4.out hb)
    clear o hb y B4
    go_wp2_with fail
    refine (sameTexts_yes x4 a1 a2 c1 c2 w5 Y.out Z.out LE4.out).mono ?_
    rintro e w6 ⟨rfl, hb⟩
    have B6 := Lib.hid (bt B5.out hb)
    clear hb Y Z B5
    go_wp2_with fail
    refine (HC5.out _ (HP.out.mono B6.out)).mono ?_
    rintro e w7 ⟨v, rfl, o, hb⟩
    obtain ⟨a1, c1, rfl, -, y⟩ := OwnG.view o (fun d hd => (BD5.out d hd).1) (fun d hd => (BD5.out d hd).2)
    have Y := Lib.hid y
    have B7 := Lib.hid (bt B6.out hb)
    clear o hb y B6
    go_wp2_with fail
    refine (HR5.out _ (HP.out.mono B7.out)).mono ?_
    rintro e w8 ⟨v, rfl, o, hb⟩
    obtain ⟨a2, c2, rfl, -, y⟩ := OwnG.view o (fun d hd => (BD5.out d hd).1) (fun d hd => (BD5.out d hd).2)
    have Z := Lib.hid y
    have Y := Lib.hid (Y.out.mono hb)
    have B8 := Lib.hid (bt B7.out hb)
    clear o hb y B7
    go_wp2_with fail
    refine (sane _).mono ?_
    rintro e w9 ⟨rfl, hb⟩
    have Y := Lib.hid (Y.out.mono hb)
    have Z := Lib.hid (Z.out.mono hb)
    have B9 := Lib.hid (bt B8.out hb)
    clear hb B8
    go_wp2_with fail
    refine (sameDigs_yes x5 a1 a2 c1 c2 w9 Y.out Z.out LE5.out).mono ?_
    rintro e w10 ⟨rfl, hb⟩
    have B10 := Lib.hid (bt B9.out hb)
    clear hb Y Z B9
    go_wp2
    go_ret
    exact ⟨rfl, B10.out⟩
end Go.Proofs.Ytlihndekeaefcaa
