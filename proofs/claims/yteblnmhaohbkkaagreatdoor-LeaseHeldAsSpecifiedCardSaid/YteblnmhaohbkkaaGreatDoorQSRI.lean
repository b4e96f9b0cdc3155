/- Contracts: numbers and digests as texts (reference). -/
import Derived.Test.YteblnmhaohbkkaaGreatDoorQSRE
import Derived.Test.YteblnmhaohbkkaaGreatDoorQSZD
namespace Go.Proofs.YteblnmhaohbkkaaGreatDoor
set_option linter.unusedVariables false
set_option linter.unusedSimpArgs false
namespace Hs
open Go.RowKit
set_option maxRecDepth 100000 in
set_option maxHeartbeats 1000000 in
theorem rInts_any (a : Option Addr) (cap : Nat) (l : List Int) (w : World) (hp : IntsA w a l) (hb : ∀ k, k < l.length → -9223372036854775808 ≤ l.getD k 0 ∧ l.getD k 0 ≤ 9223372036854775807) (hm : l.length ≤ 1000) (hT : (intsL l).length ≤ 100000) :
    Calls Tryz.prog 78 #[.slice a l.length cap] w (Gives w.heap.size w (intsL l)) := by
  have HP := Lib.hid hp
  have HN := Lib.hid hb
  have hT2 : (Wi.enc (l.length : Int)).length + (l.flatMap Wi.enc).length ≤ 100000 := by unfold intsL at hT; rw [List.length_append] at hT; exact hT
  unfold intsL
  have FL := Lib.hid (fun k => flat_le Wi.enc l k)
  obtain ⟨L, hL⟩ : ∃ L, l.length = L := ⟨_, rfl⟩
  have HLE := Lib.hid hL
  rw [hL] at hT2 hm ⊢
  have C0 := Lib.hid (fun W : World => Wi.intref_any (L : Int) W (by omega) (by omega))
  obtain ⟨E0, hE0⟩ : ∃ E, Wi.enc (L : Int) = E := ⟨_, rfl⟩
  simp only [hE0] at C0
  rw [hE0] at hT2 ⊢
  have HT := Lib.hid hT2
  have HMx := Lib.hid hm
  clear hp hL hb hT hT2 hE0 hm
  go_enter Tryz.func78, Tryz.ntmps78
  go_wp2_with fail
  refine (C0.out _).mono ?_
  rintro e w1 ⟨v, rfl, ho, hb1⟩
  have O1 := Lib.hid ho
  have B1 := Lib.hid hb1
  clear ho hb1
  go_wp2
  go_loopw [3, 4] (fun uv ui wr => ∃ k : Nat, k ≤ L ∧ ui = .int .i64 k ∧ Hid (OwnB wr w.heap.size uv (E0 ++ (l.take k).flatMap Wi.enc)) ∧ Hid (Below w.heap.size w wr)) (fun _ ui _ => L - (intOf ui).toNat)
  case atStart => exact ⟨0, by omega, rfl, Lib.hid (by simpa using O1.out), B1⟩
  case round =>
    clear O1 B1
    obtain ⟨k, hk, rfl, how, hbe⟩ := hrel
    have hmx := HMx.out
    by_cases hlt : k < L
    · have t0 : decide ((k : Int) < (L : Int)) = true := decide_eq_true (by omega)
      have wk : IntKind.i64.wrap ((k : Int) + 1) = (k : Int) + 1 := by rw [IntKind.wrap_i64]; omega
      obtain ⟨b, off, rfl, q1⟩ := HP.out.mono hbe.out k (by rw [HLE.out]; exact hlt)
      have bk := HN.out k (by rw [HLE.out]; exact hlt)
      have hln := Lib.hid (show (E0 ++ (l.take k).flatMap Wi.enc).length ≤ 1000000000 by rw [List.length_append]; have := FL.out k; have := HT.out; omega)
      have hnx := flat_snoc Wi.enc l k (by rw [HLE.out]; exact hlt)
      obtain ⟨u, hu⟩ : ∃ m, l.getD k 0 = m := ⟨_, rfl⟩
      rw [hu] at q1 bk hnx
      have C := Lib.hid (fun W : World => Wi.intref_any u W bk.1 bk.2)
      have le := (Wi.enc_len u bk.1 bk.2).2
      have fl := enc_lt u
      obtain ⟨F, hF⟩ : ∃ m, Wi.enc u = m := ⟨_, rfl⟩
      rw [hF] at hnx fl le; simp only [hF] at C
      have V := Lib.hid (fun (W : World) (B : Nat) (v : Value) (h : OwnB W B v F) => OwnB.view h fl)
      have HX := Lib.hid hnx
      have F5 := Lib.hid (show F.length ≤ 1000000000 by omega)
      have k0 : (0 : Int) ≤ (k : Int) := by omega
      have kN : (k : Int) < (L : Int) := by omega
      clear hu hF hnx fl le bk
      go_wp2_with fail
      refine (C.out _).mono ?_
      rintro e w2 ⟨v, rfl, ho, hb2⟩
      obtain ⟨a2, c2, rfl, -, y2⟩ := V.out _ _ _ ho
      have Y2 := Lib.hid y2
      have O2 := Lib.hid (show OwnB w2 w.heap.size _ _ from own_below how.out hb2)
      have B2 := Lib.hid (bt hbe.out hb2)
      have S2 := Lib.hid (B2.out.size)
      clear ho hb2 y2 how hbe
      go_wp2_with (at_builtin; refine wpAppS rfl _ _ 115 rfl w.heap.size _ _ rfl O2.out _ F rfl (src_bytes Y2.out) hln.out F5.out S2.out ?_)
      intro v' w3 hown' hb3
      have HO' := Lib.hid (show OwnB w3 w.heap.size v' (E0 ++ (l.take (k + 1)).flatMap Wi.enc) by rw [HX.out]; first | exact hown' | (rw [← List.append_assoc]; exact hown'))
      have HB3 := Lib.hid (B2.out.trans hb3)
      clear hown' hb3
      go_wp2
      go_roundw
      case rel => exact ⟨k + 1, by omega, by go_num, HO', HB3⟩
      case measure => simp [intOf]; omega
    · have ho := how.out
      rw [List.take_of_length_le (by rw [HLE.out]; omega)] at ho
      have t0 : decide ((k : Int) < (L : Int)) = false := decide_eq_false (by omega)
      go_wp2
      go_ret
      exact ⟨_, rfl, ho, hbe.out⟩
end Hs
open Go.RowKit
set_option maxRecDepth 100000 in
theorem rints_any (l : List Int) (n : Nat) (hn : l.length = n) (h : ∀ x ∈ l, i64Ok x) (hl : n ≤ 30) (g : Nat) (X : World) (hb : Blk X g 3 (l.map fun x => Value.int .i64 x).toArray) :
    Calls Tryz.prog 67 #[.slice (some ⟨g, 0, none⟩) n n] X fun e w' => e = .returned (.string (numP l)) ∧ Below X.heap.size X w' := by
  have CI := Hs.rInts_any (some ⟨g, 0, none⟩) n l X (ints_blk hb) (fun k hk => h _ (by rw [List.getD_eq_getElem?_getD, List.getElem?_eq_getElem hk]; exact List.getElem_mem hk)) (by omega) (by have := intsL_le l h (by omega); omega)
  rw [hn] at CI
  have H6 := Lib.hid (intsL_lt l)
  unfold numP
  obtain ⟨L, hL⟩ : ∃ z, Hs.intsL l = z := ⟨_, rfl⟩
  rw [hL] at CI H6 ⊢
  have CI := Lib.hid CI
  clear h hl hb hL hn
  go_enter Tryz.func67, Tryz.ntmps67
  go_wp2_with fail
  refine CI.out.mono ?_
  rintro e w1 ⟨v, rfl, h1, hb1⟩
  obtain ⟨a9, c9, rfl, -, h9⟩ := Hs.OwnB.view h1 H6.out
  have hcv := Hs.conv_str L a9 c9 w1 h9
  have HB := Lib.hid hb1
  clear h1 hb1 h9
  go_wp2
  go_ret
  exact ⟨rfl, HB.out⟩
end Go.Proofs.YteblnmhaohbkkaaGreatDoor
