/- The law HashCrcMatchesSpec, walked. -/
import Derived.Test.YtjeipkoomefekaaDoorX
namespace Go.Proofs.YtjeipkoomefekaaDoor
set_option linter.unusedVariables false
set_option linter.unusedSimpArgs false
open Go.RowKit
set_option maxRecDepth 100000 in
set_option maxHeartbeats 1000000 in
theorem crcMatches (aa : Option Addr) (ca : Nat) (la : List Nat) (w : World) (hca : la.length ≤ ca) (ha : BytesA w aa la) (ma : la.length ≤ 9223372036854775807) (hla : LaidC w) :
    Calls Tryd.prog 3 #[.slice aa la.length ca] w fun e w' => e = .returned (.bool true) ∧ Below w.heap.size w w' := by
  have LA := Lib.hid hla
  have HA := Lib.hid ha
  have hlt := ha.lt
  by_cases h1 : 600 < la.length
  · clear ha hla hlt
    go_enter Tryd.func3, Tryd.ntmps3
    go_wp2_with fail
    refine (sane _ LA.out).mono ?_
    rintro e w1 ⟨rfl, hb1⟩
    have B1 := Lib.hid hb1
    clear hb1
    go_wp2
    go_ret
    exact ⟨rfl, B1.out⟩
  have C1 := Lib.hid (fun (W : World) (h : BytesA W aa la) (h2 : LaidC W) => crc40_any aa ca la W h (by omega) h2)
  have C2 := Lib.hid (fun (a : Option Addr) (cap : Nat) (W : World) (h : BytesA W a la) => crcref_any a cap la W h (by omega))
  have S1 := fun (W : World) (h : BytesA W aa la) => conv_str la aa ca W h
  obtain ⟨G, O, hGO⟩ := str_conv la hlt
  have S3 := fun W => (hGO W).1
  have VW := Lib.hid (fun W => (hGO W).2)
  have cl := crc_lt la
  obtain ⟨T, hT⟩ : ∃ X, crc la = X := ⟨_, rfl⟩
  rw [hT] at C1 C2 cl
  obtain ⟨ST, hST⟩ : ∃ X, strB la = X := ⟨_, rfl⟩
  rw [hST] at S1; simp only [hST] at S3
  clear ha hla hlt hT hGO hST
  go_enter Tryd.func3, Tryd.ntmps3
  go_wp2_with fail
  refine (sane _ LA.out).mono ?_
  rintro e w1 ⟨rfl, hb1⟩
  have B1 := Lib.hid (show Below w.heap.size w w1 from hb1)
  have S2 := S1 w1 (HA.out.mono hb1)
  clear hb1
  go_wp2_with fail
  refine (C1.out _ (HA.out.mono B1.out) (LA.out.mono B1.out)).mono ?_
  rintro e w2 ⟨rfl, hb2⟩
  have B2 := Lib.hid (bt B1.out hb2)
  have hb3 : Below w.heap.size w (w2.drew.alloc (O w2)) := (show Below w.heap.size w w2.drew from ⟨B2.out.os, B2.out.tape, B2.out.output, B2.out.size, B2.out.block⟩).alloc B2.out.size _
  have S4 := S1 (w2.alloc (O w2)).drew (HA.out.mono hb3)
  have B3 := Lib.hid hb3
  clear hb2 hb3 S1
  go_wp2_with fail
  refine (C2.out _ _ _ (VW.out w2)).mono ?_
  rintro e w3 ⟨rfl, rfl⟩
  have q1 : (T : Int) < 1099511627776 := by omega
  have q2 : (0 : Int) ≤ T := by omega
  have q3 : decide ((T : Int) < 1099511627776) = true := decide_eq_true q1
  clear S3 VW C1 C2 S2 cl q1
  go_wp2
  go_ret
  exact ⟨rfl, B3.out⟩
end Go.Proofs.YtjeipkoomefekaaDoor
