/- The law HashCrcJoins, walked. -/
import Derived.Test.YtjeipkoomefekaaDoorW
namespace Go.Proofs.YtjeipkoomefekaaDoor
set_option linter.unusedVariables false
set_option linter.unusedSimpArgs false
open Go.RowKit
set_option maxRecDepth 100000 in
set_option maxHeartbeats 2000000 in
theorem crcJoins (aa ab ac : Option Addr) (ca cb cc : Nat) (la lb lc : List Nat) (w : World) (hca : la.length ≤ ca) (hcb : lb.length ≤ cb) (hcc : lc.length ≤ cc) (ha : BytesA w aa la) (hb : BytesA w ab lb) (hc : BytesA w ac lc)
    (ma : la.length ≤ 9223372036854775807) (mb : lb.length ≤ 9223372036854775807) (mc : lc.length ≤ 9223372036854775807) (hla : LaidC w) :
    Calls Tryd.prog 7 #[.slice aa la.length ca, .slice ab lb.length cb, .slice ac lc.length cc] w fun e w' => e = .returned (.bool true) ∧ Below w.heap.size w w' := by
  have LA := Lib.hid hla
  have HA := Lib.hid ha; have HB := Lib.hid hb; have HC := Lib.hid hc
  have big : ∀ (P : Prop), P → True := fun _ _ => trivial
  by_cases h1 : 400 < la.length
  · clear ha hb hc hla big
    go_enter Tryd.func7, Tryd.ntmps7
    go_wp2_with fail
    refine (sane _ LA.out).mono ?_
    rintro e w1 ⟨rfl, hb1⟩
    have B1 := Lib.hid hb1
    clear hb1
    go_wp2
    go_ret
    exact ⟨rfl, B1.out⟩
  by_cases h2 : 400 < lb.length
  · clear ha hb hc hla big
    go_enter Tryd.func7, Tryd.ntmps7
    go_wp2_with fail
    refine (sane _ LA.out).mono ?_
    rintro e w1 ⟨rfl, hb1⟩
    have B1 := Lib.hid hb1
    clear hb1
    go_wp2
    go_ret
    exact ⟨rfl, B1.out⟩
  by_cases h3 : 400 < lc.length
  · clear ha hb hc hla big
    go_enter Tryd.func7, Tryd.ntmps7
    go_wp2_with fail
    refine (sane _ LA.out).mono ?_
    rintro e w1 ⟨rfl, hb1⟩
    have B1 := Lib.hid hb1
    clear hb1
    go_wp2
    go_ret
    exact ⟨rfl, B1.out⟩
  have hlt : ∀ x ∈ la ++ lb ++ lc, x < 256 := by
    intro x hx
    simp only [List.mem_append] at hx
    rcases hx with (hx | hx) | hx
    · exact ha.lt x hx
    · exact hb.lt x hx
    · exact hc.lt x hx
  have HLT := Lib.hid hlt
  have C1 := Lib.hid (fun (W : World) (h : BytesA W aa la) (h2 : LaidC W) => crc40_any aa ca la W h (by omega) h2)
  have C2 := Lib.hid (fun (W : World) (h : BytesA W ab lb) (h2 : LaidC W) => crc40_any ab cb lb W h (by omega) h2)
  have C3 := Lib.hid (fun (W : World) (h : BytesA W ac lc) (h2 : LaidC W) => crc40_any ac cc lc W h (by omega) h2)
  have C4 := Lib.hid (fun (a : Option Addr) (cap : Nat) (W : World) (h : BytesA W a (la ++ lb ++ lc)) (h2 : LaidC W) => crc40_any a cap (la ++ lb ++ lc) W h (by simp; omega) h2)
  have J1 := Lib.hid (fun W : World => join_any (crc la : Nat) (crc lb : Nat) lb.length W (by omega))
  have J2 := Lib.hid (fun W : World => join_any ((join (crc la) (crc lb) lb.length : Nat) : Int) (crc lc : Nat) lc.length W (by omega))
  have J3 := Lib.hid (fun W : World => join_any (crc lb : Nat) (crc lc : Nat) lc.length W (by omega))
  have J4 := Lib.hid (fun W : World => join_any (crc la : Nat) ((join (crc lb) (crc lc) lc.length : Nat) : Int) (lb.length + lc.length) W (by omega))
  rw [low_crc, low_crc] at J1 J3
  rw [low_join, low_crc, crc_three] at J2
  rw [low_join, low_crc, crc_three'] at J4
  obtain ⟨X, hX⟩ : ∃ X, crc la = X := ⟨_, rfl⟩
  obtain ⟨Y, hY⟩ : ∃ X, crc lb = X := ⟨_, rfl⟩
  obtain ⟨Z, hZ⟩ : ∃ X, crc lc = X := ⟨_, rfl⟩
  obtain ⟨T, hT⟩ : ∃ X, crc (la ++ lb ++ lc) = X := ⟨_, rfl⟩
  rw [hX] at C1 J1 J2 J4; rw [hY] at C2 J1 J2 J3 J4; rw [hZ] at C3 J2 J3 J4; rw [hT] at C4 J2 J4
  obtain ⟨U, hU⟩ : ∃ R, join X Y lb.length = R := ⟨_, rfl⟩
  obtain ⟨V, hV⟩ : ∃ R, join Y Z lc.length = R := ⟨_, rfl⟩
  rw [hU] at J1 J2; rw [hV] at J3 J4
  obtain ⟨K, hK⟩ : ∃ K, lb.length + lc.length = K := ⟨_, rfl⟩
  have KB : K ≤ 800 := by omega
  have e1 : (lb.length : Int) + (lc.length : Int) = (K : Int) := by omega
  rw [hK] at J4
  have LN := Lib.hid (show (la ++ lb).length ≤ 1000000000 by simp; omega)
  clear ha hb hc hla big hlt hX hY hZ hT hU hV hK
  go_enter Tryd.func7, Tryd.ntmps7
  go_wp2_with fail
  refine (sane _ LA.out).mono ?_
  rintro e w1 ⟨rfl, hb1⟩
  have B1 := Lib.hid (show Below w.heap.size w w1 from hb1)
  clear hb1
  go_wp2_with (at_builtin; refine wpAppS rfl _ _ 22 rfl w.heap.size _ _ rfl (OwnB.nil _ _) _ la rfl (src_bytes (HA.out.mono B1.out)) (by simp) (by omega) B1.out.size ?_)
  intro v1 w2 ho1 hb2
  have O1 := Lib.hid ho1
  have B2 := Lib.hid (B1.out.trans hb2)
  clear ho1 hb2 B1
  go_wp2_with (at_builtin; refine wpAppS rfl _ _ 22 rfl w.heap.size _ _ rfl O1.out _ lb rfl (src_bytes (HB.out.mono B2.out)) (by first | omega | (simp; omega)) (by omega) B2.out.size ?_)
  intro v2 w3 ho2 hb3
  have O2 := Lib.hid ho2
  have B3 := Lib.hid (B2.out.trans hb3)
  clear ho2 hb3 B2 O1
  go_wp2_with (at_builtin; refine wpAppS rfl _ _ 22 rfl w.heap.size _ _ rfl O2.out _ lc rfl (src_bytes (HC.out.mono B3.out)) (by first | exact LN.out | omega | (simp; omega)) (by omega) B3.out.size ?_)
  intro v3 w4 ho3 hb4
  have B4 := Lib.hid (B3.out.trans hb4)
  rw [← List.append_assoc] at ho3
  obtain ⟨a4, c4, rfl, hc4, y4⟩ := OwnB.view ho3 HLT.out
  have Y4 := Lib.hid y4
  have ln : (la ++ lb ++ lc).length ≤ 1200 := by simp; omega
  obtain ⟨Q, hQ⟩ : ∃ Q, (la ++ lb ++ lc).length = Q := ⟨_, rfl⟩
  rw [hQ] at ln hc4 C4 ⊢
  clear ho3 hb4 B3 O2 y4 hQ
  go_wp2_with fail
  refine (C1.out _ (HA.out.mono B4.out) (LA.out.mono B4.out)).mono ?_
  rintro e w5 ⟨rfl, hb5⟩
  have B5 := Lib.hid (bt B4.out hb5); have Y5 := Lib.hid (Y4.out.mono hb5)
  clear hb5 B4 Y4
  go_wp2_with fail
  refine (C2.out _ (HB.out.mono B5.out) (LA.out.mono B5.out)).mono ?_
  rintro e w6 ⟨rfl, hb6⟩
  have B6 := Lib.hid (bt B5.out hb6); have Y6 := Lib.hid (Y5.out.mono hb6)
  clear hb6 B5 Y5
  go_wp2_with fail
  refine (C3.out _ (HC.out.mono B6.out) (LA.out.mono B6.out)).mono ?_
  rintro e w7 ⟨rfl, hb7⟩
  have B7 := Lib.hid (bt B6.out hb7); have Y7 := Lib.hid (Y6.out.mono hb7)
  clear hb7 B6 Y6
  go_wp2_with fail
  refine (J1.out _).mono ?_
  rintro e w8 ⟨rfl, rfl⟩
  go_wp2_with fail
  refine (J2.out _).mono ?_
  rintro e w8 ⟨rfl, rfl⟩
  go_wp2_with fail
  refine (J3.out _).mono ?_
  rintro e w8 ⟨rfl, rfl⟩
  go_wp2_with fail
  refine (J4.out _).mono ?_
  rintro e w8 ⟨rfl, rfl⟩
  go_wp2_with fail
  refine (C4.out _ _ _ Y7.out (LA.out.mono B7.out)).mono ?_
  rintro e w8 ⟨rfl, hb8⟩
  have B8 := Lib.hid (bt B7.out hb8)
  clear hb8
  go_wp2
  go_ret
  exact ⟨rfl, B8.out⟩
end Go.Proofs.YtjeipkoomefekaaDoor
