/- The law WireIntRoundTrip, walked. -/
import Derived.Test.YtlihndekeaefcaaV
namespace Go.Proofs.Ytlihndekeaefcaa
set_option linter.unusedVariables false
set_option linter.unusedSimpArgs false
open Go.RowKit
set_option maxRecDepth 100000 in
set_option maxHeartbeats 2000000 in
theorem intRoundTrip (n : Int) (b : Option Addr) (cb : Nat) (t : List Nat) (w : World) (h1 : -9223372036854775808 ≤ n) (h2 : n ≤ 9223372036854775807) (hb : BytesA w b t) (hm : t.length ≤ 9223372036854775807) :
    Calls Try.prog 6 #[.int .i64 n, .slice b t.length cb] w fun e w' => e = .returned (.bool true) ∧ Below w.heap.size w w' := by
  have HB := Lib.hid hb; clear hb
  by_cases hlt : 2000 < t.length
  · go_enter Try.func6, Try.ntmps6
    go_wp2_with fail
    refine (sane _).mono ?_
    rintro e w1 ⟨rfl, hb1⟩
    go_wp2
    go_ret
    exact ⟨rfl, hb1⟩
  · obtain ⟨e1, e2⟩ := enc_len n h1 h2
    have hlen : (enc n ++ t).length = (enc n).length + t.length := List.length_append
    have hg := getI_enc 11 10 n t h1 h2
    obtain ⟨l, hl⟩ : ∃ l, enc n = l := ⟨_, rfl⟩
    have C0 := Lib.hid (fun W : World => int_any n W h1 h2)
    have hlt2 := enc_lt n
    rw [hl] at e1 e2 hlen hg C0 hlt2
    have HG := Lib.hid hg
    have HL := Lib.hid hlt2
    clear hg hl hlt2
    go_enter Try.func6, Try.ntmps6
    go_wp2_with fail
    refine (C0.out _).mono ?_
    intro e w1 h
    obtain ⟨a, cap, rfl, hcap, ya, hb1⟩ := gives_view h HL.out
    have YA := Lib.hid ya
    have B1 := Lib.hid hb1
    clear h ya hb1
    go_wp2_with (at_builtin; refine wpAppC rfl _ _ rfl a b cb l t l.length t.length rfl rfl rfl rfl YA.out (HB.out.mono B1.out) (by omega) (by omega) ?_)
    intro a' c' w2 hc2 y2 hb2
    have Y2 := Lib.hid y2
    have B2 := Lib.hid (bt B1.out hb2)
    clear y2 hb2
    have hc := getInt_any a' c' (l ++ t) w2 Y2.out (by omega)
    rw [val_gv HG.out, hlen] at hc
    have HC := Lib.hid hc
    clear hc
    go_wp2_with fail
    refine HC.out.mono ?_
    rintro e w3 ⟨rfl, rfl⟩
    go_wp2_with fail
    refine (sane _).mono ?_
    rintro e w4 ⟨rfl, hb4⟩
    have B4 := Lib.hid (bt B2.out hb4)
    clear hb4
    go_wp2
    go_ret
    exact ⟨ret_bool (by first | rfl | (apply decide_eq_true; omega)), B4.out⟩
end Go.Proofs.Ytlihndekeaefcaa
