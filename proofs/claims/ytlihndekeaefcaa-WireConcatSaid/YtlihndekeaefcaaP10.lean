/- The law WireConcat, walked. -/
import Derived.Test.YtlihndekeaefcaaV
namespace Go.Proofs.Ytlihndekeaefcaa
set_option linter.unusedVariables false
set_option linter.unusedSimpArgs false
open Go.RowKit
set_option maxRecDepth 100000 in
set_option maxHeartbeats 4000000 in
theorem concat (s : ByteArray) (a : Option Addr) (cap : Nat) (l : List Int) (w : World) (hp : IntsA w a l) (hm : s.size + l.length ≤ 9223372036854775807) :
    Calls Try.prog 10 #[.string s, .slice a l.length cap] w fun e w' => e = .returned (.bool true) ∧ Below w.heap.size w w' := by
  have HP := Lib.hid hp; clear hp
  by_cases hlt : 2000 < s.size + l.length
  · go_enter Try.func10, Try.ntmps10
    go_wp2_with fail
    refine (sane _).mono ?_
    rintro e w1 ⟨rfl, hb1⟩
    go_wp2
    go_ret
    exact ⟨rfl, hb1⟩
  · have hs1 : s.size ≤ 1000000 := by omega
    have hi := encL_ints l HP.out.lt (by omega)
    have hsl := encS_len (sb s) (by rw [sb_len]; omega)
    rw [sb_len] at hsl
    have g1 := GB_rt (sb s) (encL enc l) (by rw [sb_len]; omega)
    have g2 := DL_rt (D := G) (f := enc) 1 l [] (by decide) (by omega) (fun x hx => rt_enc x (HP.out.lt x hx).1 (HP.out.lt x hx).2) (fun x hx => int_pos x)
    rw [List.append_nil] at g2
    have lt1 := encS_lt (sb s) (sb_lt s)
    have lt2 := encL_lt enc l (fun y _ => enc_lt y)
    have C1 := Lib.hid (fun W : World => bytes_any s W hs1)
    have C2 := Lib.hid (fun (W : World) (h : IntsA W a l) => ints_any a cap l W h (by omega) (by omega))
    have hlen : (encS (sb s) ++ encL enc l).length = (encS (sb s)).length + (encL enc l).length := List.length_append
    obtain ⟨L1, h1⟩ : ∃ L, encS (sb s) = L := ⟨_, rfl⟩
    obtain ⟨L2, h2⟩ : ∃ L, encL enc l = L := ⟨_, rfl⟩
    rw [h1] at hsl g1 lt1 C1 hlen
    rw [h2] at hi g1 g2 lt2 C2 hlen
    have G1 := Lib.hid g1; have G2 := Lib.hid g2; have LT1 := Lib.hid lt1; have LT2 := Lib.hid lt2; have HLEN := Lib.hid hlen
    clear g1 g2 lt1 lt2 h1 h2 hlen
    obtain ⟨k1, hk1⟩ : ∃ k, L1.length = k := ⟨_, rfl⟩
    obtain ⟨k2, hk2⟩ : ∃ k, L2.length = k := ⟨_, rfl⟩
    rw [hk1] at hsl G1 HLEN
    rw [hk2] at hi G2 HLEN
    have K1 := Lib.hid hk1; have K2 := Lib.hid hk2
    clear hk1 hk2
    go_enter Try.func10, Try.ntmps10
    go_wp2_with fail
    refine (C1.out _).mono ?_
    rintro e w1 ⟨v1, rfl, o1, hb1⟩
    have O1 := Lib.hid o1
    have B1 := Lib.hid hb1
    clear o1 hb1
    go_wp2_with fail
    refine (C2.out _ (HP.out.mono B1.out)).mono ?_
    rintro e w2 ⟨v2, rfl, o2, hb2⟩
    have O1' := Lib.hid (show OwnB w2 w.heap.size v1 L1 from own_below O1.out hb2)
    have S2 := Lib.hid (gives_src o2 (by rw [K2.out]; omega))
    have B2 := Lib.hid (bt B1.out hb2)
    clear o2 hb2 O1 B1
    go_wp2_with (at_builtin; refine wpAppS rfl _ _ 28 rfl w.heap.size _ L1 rfl O1'.out _ L2 rfl S2.out.1 ?hl ?ht ?hBB ?_)
    case hl => rw [K1.out]; omega
    case ht => rw [K2.out]; omega
    case hBB => exact B2.out.size
    intro v3 w3 o3 hb3
    obtain ⟨a3, c3, rfl, hc3, y3⟩ := OwnB.view o3 (fun x hx => by
      rcases List.mem_append.1 hx with k | k
      · exact LT1.out x k
      · exact LT2.out x k)
    have B3 := Lib.hid (B2.out.trans hb3)
    have hgb := getBytes_any a3 c3 (L1 ++ L2) w3 hc3 y3 (by rw [HLEN.out]; omega)
    unfold GBV at hgb
    rw [G1.out, strB_sb, HLEN.out] at hgb
    have hcut := cutA_drop (u := k1) y3 hc3 (by rw [HLEN.out]; omega)
    rw [← K1.out, List.drop_left, K1.out] at hcut
    rw [HLEN.out] at hc3
    have hgi := getInts_any (cutA a3 c3 k1) (c3 - k1) L2 w3 (by rw [K2.out]; omega) hcut (by rw [K2.out]; omega)
    rw [G2.out, K2.out] at hgi
    have hsl3 := fun W => slice_l a3 (k1 + k2) c3 k1 (by omega) W
    rw [Nat.add_sub_cancel_left] at hsl3
    have GB3 := Lib.hid hgb; have GI3 := Lib.hid hgi
    clear o3 hb3 y3 hgb hgi hcut B2 O1' S2
    simp only [List.length_append, K1.out, K2.out]
    go_wp2_with fail
    refine GB3.out.mono ?_
    rintro e w4 ⟨rfl, rfl⟩
    go_wp2_with fail
    refine GI3.out.mono ?_
    rintro e w5 ⟨v5, rfl, o5, hb5⟩
    obtain ⟨a5, c5, rfl, -, y5⟩ := OwnI.view o5 HP.out.lt
    have Y5 := Lib.hid y5
    have B5 := Lib.hid (bt B3.out hb5)
    clear o5 hb5 y5 B3 GB3 GI3
    go_wp2_with fail
    refine (sane _).mono ?_
    rintro e w6 ⟨rfl, hb6⟩
    have B6 := Lib.hid (bt B5.out hb6)
    have Y6 := Lib.hid (Y5.out.mono hb6)
    clear hb6 B5 Y5
    go_wp2_with fail
    refine (sameInts_yes l a5 a c5 cap w6 Y6.out (HP.out.mono B6.out) (by omega)).mono ?_
    rintro e w7 ⟨rfl, hb7⟩
    have B7 := Lib.hid (bt B6.out hb7)
    clear hb7
    go_wp2
    go_ret
    exact ⟨ret_bool (by first | rfl | (simp; omega)), B7.out⟩
end Go.Proofs.Ytlihndekeaefcaa
