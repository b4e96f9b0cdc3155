/- The law HashWordsMatchSpec, walked. -/
import Derived.Test.YtjeipkoomefekaaDoorZ
namespace Go.Proofs.YtjeipkoomefekaaDoor
set_option linter.unusedVariables false
set_option linter.unusedSimpArgs false
open Go.RowKit
def lows (l : List Int) : List Int := l.map fun n => ((low n : Nat) : Int)
theorem bytesL_lows (l : List Int) : bytesL (lows l) = bytesL l := by
  unfold bytesL lows
  rw [List.flatMap_map]
  congr 1
  funext n
  rw [low_nat, Nat.mod_eq_of_lt (low_lt n)]
theorem lows_take (l : List Int) (k : Nat) (h : k < l.length) : lows (l.take (k + 1)) = lows (l.take k) ++ [((low (l.getD k 0) : Nat) : Int)] := by
  unfold lows
  rw [List.take_add_one, List.map_append, List.getElem?_eq_getElem h, List.getD_eq_getElem?_getD, List.getElem?_eq_getElem h]
  rfl
theorem lows_len (l : List Int) : (lows l).length = l.length := List.length_map _
set_option maxRecDepth 100000 in
set_option maxHeartbeats 1000000 in
theorem wordsMatch (a : Option Addr) (cap : Nat) (l : List Int) (w : World) (hp : IntsA w a l) (hm : l.length ≤ 9223372036854775807) (hla : LaidC w) :
    Calls Tryd.prog 5 #[.slice a l.length cap] w fun e w' => e = .returned (.bool true) ∧ Below w.heap.size w w' := by
  have LA := Lib.hid hla
  have HP := Lib.hid hp
  by_cases h1 : 80 < l.length
  · clear hp hla
    go_enter Tryd.func5, Tryd.ntmps5
    go_wp2_with fail
    refine (sane _ LA.out).mono ?_
    rintro e w1 ⟨rfl, hb1⟩
    have B1 := Lib.hid hb1
    clear hb1
    go_wp2
    go_ret
    exact ⟨rfl, B1.out⟩
  have C1 := Lib.hid (fun (W : World) (h : IntsA W a l) (h2 : LaidC W) => words_any a cap l W h hm h2)
  have C2 := Lib.hid (fun (W : World) (h : IntsA W a l) => wordsref_any a cap l W h (by omega))
  have C3 := Lib.hid (fun (a : Option Addr) (cap : Nat) (W : World) (h : IntsA W a (lows l)) (h2 : LaidC W) => by have := words_any a cap (lows l) W h (by rw [lows_len]; exact hm) h2; rw [bytesL_lows, lows_len] at this; exact this)
  have C4 := Lib.hid (fun (W : World) (h : IntsA W a l) => bytesref_any a cap l W h (by omega))
  have C5 := Lib.hid (fun (a : Option Addr) (cap : Nat) (W : World) (h : BytesA W a (bytesL l)) (h2 : LaidC W) => crc40_any a cap (bytesL l) W h (by rw [bytesL_len]; omega) h2)
  have V := Lib.hid (fun (W : World) (B : Nat) (v : Value) (h : OwnB W B v (bytesL l)) => OwnB.view h (bytesL_lt l))
  have VI := Lib.hid (fun (W : World) (B : Nat) (v : Value) (h : OwnI W B v (lows l)) => by have := OwnI.view h; rw [lows_len] at this; exact this)
  obtain ⟨L, hL⟩ : ∃ L, l.length = L := ⟨_, rfl⟩
  have HLE := Lib.hid hL
  obtain ⟨K, hK⟩ : ∃ m, (bytesL l).length = m := ⟨_, rfl⟩
  obtain ⟨T, hT⟩ : ∃ m, crc (bytesL l) = m := ⟨_, rfl⟩
  simp only [hL, hK, hT] at C1 C2 C3 C4 C5 V VI
  rw [hL] at hm h1 ⊢
  clear hp hla hL hK hT
  go_enter Tryd.func5, Tryd.ntmps5
  go_wp2_with fail
  refine (sane _ LA.out).mono ?_
  rintro e w1 ⟨rfl, hb1⟩
  have B1 := Lib.hid (show Below w.heap.size w w1 from hb1)
  clear hb1
  go_wp2
  go_loopw [4, 5] (fun uv ui wr => ∃ k : Nat, k ≤ L ∧ ui = .int .i64 k ∧ Hid (OwnI wr w.heap.size uv (lows (l.take k))) ∧ Hid (Below w.heap.size w wr)) (fun _ ui _ => L - (intOf ui).toNat)
  case atStart => exact ⟨0, by omega, rfl, Lib.hid (OwnI.nil _ _), B1⟩
  case round =>
    obtain ⟨k, hk, rfl, how, hbe⟩ := hrel
    by_cases hlt : k < L
    · obtain ⟨b, off, rfl, q1⟩ := HP.out.mono hbe.out k (by rw [HLE.out]; exact hlt)
      have HS := Lib.hid hbe.out.size
      have hln := Lib.hid (show (lows (l.take k)).length ≤ 1000000000 by rw [lows_len, List.length_take]; omega)
      have ht := lows_take l k (by rw [HLE.out]; exact hlt)
      obtain ⟨n, hn⟩ : ∃ n, l.getD k 0 = n := ⟨_, rfl⟩
      rw [hn] at q1 ht
      have kl := i64_low n
      have HX := Lib.hid ht
      clear hn ht
      go_wp2_with (at_builtin; refine wpAppI rfl _ _ rfl w.heap.size _ _ rfl how.out ((low n : Nat) : Int) _ ?hy rfl ?hlen ?hBB ?_)
      case hy => rfl
      case hlen => exact hln.out
      case hBB => exact HS.out
      intro v' w2 hown' hb2
      have HO' := Lib.hid (show OwnI w2 w.heap.size v' (lows (l.take (k + 1))) by rw [HX.out]; exact hown')
      have HB2 := Lib.hid (hbe.out.trans hb2)
      clear hown' hb2
      go_wp2
      go_roundw
      case rel => exact ⟨k + 1, by omega, by go_num, HO', HB2⟩
      case measure => simp [intOf]; omega
    · have ho := how.out
      rw [List.take_of_length_le (by rw [HLE.out]; omega)] at ho
      obtain ⟨a2, c2, rfl, -, y2⟩ := VI.out _ _ _ ho
      have Y2 := Lib.hid y2
      clear ho y2 how
      go_wp2_with fail
      refine (C1.out _ (HP.out.mono hbe.out) (LA.out.mono hbe.out)).mono ?_
      rintro e w3 ⟨rfl, hb3⟩
      have B3 := Lib.hid (bt hbe.out hb3); have Y3 := Lib.hid (Y2.out.mono hb3)
      clear hb3 hbe Y2
      go_wp2_with fail
      refine (C2.out _ (HP.out.mono B3.out)).mono ?_
      rintro e w4 ⟨rfl, hb4⟩
      have B4 := Lib.hid (bt B3.out hb4); have Y4 := Lib.hid (Y3.out.mono hb4)
      clear hb4 B3 Y3
      go_wp2_with fail
      refine (C3.out _ _ _ Y4.out (LA.out.mono B4.out)).mono ?_
      rintro e w5 ⟨rfl, hb5⟩
      have B5 := Lib.hid (bt B4.out hb5)
      clear hb5 B4 Y4
      go_wp2_with fail
      refine (C4.out _ (HP.out.mono B5.out)).mono ?_
      rintro e w6 ⟨v, rfl, ho, hb6⟩
      obtain ⟨a3, c3, rfl, -, y6⟩ := V.out _ _ _ ho
      have B6 := Lib.hid (bt B5.out hb6); have Y6 := Lib.hid y6
      clear hb6 ho y6 B5
      go_wp2_with fail
      refine (C5.out _ _ _ Y6.out (LA.out.mono B6.out)).mono ?_
      rintro e w7 ⟨rfl, hb7⟩
      have B7 := Lib.hid (bt B6.out hb7)
      clear hb7 B6 Y6
      go_wp2
      go_ret
      exact ⟨rfl, B7.out⟩
end Go.Proofs.YtjeipkoomefekaaDoor
