/- Contracts: slices.IndexFunc at api.Row, with a closure over two blocks. -/
import Derived.Test.YtcgdhankllphgaaCL
import Derived.Test.YtcgdhankllphgaaRoH
namespace Go.Proofs.Ytcgdhankllphgaa
set_option linter.unusedVariables false
set_option linter.unusedSimpArgs false
namespace Ro
open Go.RowKit
set_option maxRecDepth 100000 in
set_option maxHeartbeats 1000000 in
theorem index_any (a : Option Addr) (cap : Nat) (l : List Rw) (pb pp : Value) (O : Nat) (J : World → Prop) (JB : ∀ X X' : World, J X → Below O X X' → J X') (p : Rw → Bool) (w : World) (GON : ∀ (x : Rw) (W : World), J W → x ∈ l → Calls Try.prog 51 #[.agg (encR x).toArray, pb, pp] W fun e w' => e = .returned (.bool (p x)) ∧ Below W.heap.size W w') (hJ : J w) (hO : O ≤ w.heap.size) (hp : RwA w a l) (hm : l.length ≤ 1000000) :
    Calls Try.prog 82 #[.slice a l.length cap, .func (.func 51) #[] #[pb, pp]] w fun e w' =>
      (∃ r : Int, e = .returned (.int .i64 r) ∧ ((r = -1 ∧ ∀ k, k < l.length → p (l.getD k r0) = false) ∨ ∃ i : Nat, r = i ∧ i < l.length ∧ p (l.getD i r0) = true ∧ ∀ k, k < i → p (l.getD k r0) = false)) ∧ Below w.heap.size w w' := by
  have HP := Lib.hid hp
  have HJ := Lib.hid hJ
  have JB := Lib.hid JB
  have GON := Lib.hid GON
  obtain ⟨N, hN⟩ : ∃ N, l.length = N := ⟨_, rfl⟩
  have HE := Lib.hid hN
  rw [hN] at hm ⊢
  have HO := Lib.hid hO
  clear hp hN hJ hO
  go_enter Try.func82, Try.ntmps82
  go_wp2
  go_loopw [5, 8] (fun _ u8 wr => ∃ i : Nat, u8 = .int .i64 i ∧ i ≤ N ∧ Hid (∀ k, k < i → p (l.getD k r0) = false) ∧ Hid (Below w.heap.size w wr)) (fun _ u8 _ => (N - intOf u8).toNat)
  case atStart => exact ⟨0, rfl, by omega, Lib.hid (fun k hk => absurd hk (by omega)), Lib.hid (Below.refl _ _)⟩
  case round =>
    obtain ⟨i, rfl, hij, hs, hbe⟩ := hrel
    by_cases hlt : i < N
    · have t0 : decide ((i : Int) < (N : Int)) = true := decide_eq_true (by omega)
      obtain ⟨b, off, rfl, q0, q1, q2, q3⟩ := RwA.at_ (HP.out.mono hbe.out) (k := i) (by rw [HE.out]; omega)
      have hmem : l.getD i r0 ∈ l := by
        rw [List.getD_eq_getElem?_getD, List.getElem?_eq_getElem (by rw [HE.out]; exact hlt)]; exact List.getElem_mem _
      have C := Lib.hid (fun (W : World) (h : J W) => GON.out (l.getD i r0) W h hmem)
      obtain ⟨x, hx⟩ : ∃ y, l.getD i r0 = y := ⟨_, rfl⟩
      have HX := Lib.hid hx
      rw [hx] at q0 q1 q2 q3 C
      have JW := Lib.hid (JB.out _ _ HJ.out (hbe.out.mono HO.out))
      clear hx hmem
      obtain ⟨x1, x2, x3, x4⟩ := x
      simp only [encR] at q0 q1 q2 q3 C
      have i0 : (0 : Int) ≤ (i : Int) := by omega
      have iN : (i : Int) < (N : Int) := by omega
      have wi : IntKind.i64.wrap ((i : Int) + 1) = (i : Int) + 1 := by rw [IntKind.wrap_i64]; omega
      cases hpx : p (x1, x2, x3, x4)
      · rw [hpx] at C
        have HS := Lib.hid (show ∀ k, k < i + 1 → p (l.getD k r0) = false from fun k hk => by
          rcases Nat.lt_or_ge k i with h | h
          · exact hs.out k h
          · obtain rfl : k = i := by omega
            rw [HX.out]; exact hpx)
        clear hpx
        go_wp2_with fail
        refine (C.out _ JW.out).mono ?_
        rintro e w5 ⟨rfl, hb⟩
        have B5 := Lib.hid (hbe.out.trans (hb.mono hbe.out.size))
        clear hb q0 q1 q2 q3
        go_wp2
        go_roundw
        case rel => exact ⟨i + 1, by go_num, by omega, HS, B5⟩
        case measure => simp [intOf]; omega
      · rw [hpx] at C
        have HF := Lib.hid (show p (l.getD i r0) = true by rw [HX.out]; exact hpx)
        clear hpx
        go_wp2_with fail
        refine (C.out _ JW.out).mono ?_
        rintro e w5 ⟨rfl, hb⟩
        have B5 := Lib.hid (hbe.out.trans (hb.mono hbe.out.size))
        clear hb q0 q1 q2 q3
        go_wp2
        refine bodyPost_ret (by simp [results, Try.results82, go_sem]; try rfl) rfl ?_
        exact ⟨⟨i, rfl, Or.inr ⟨i, rfl, by omega, HF.out, hs.out⟩⟩, B5.out⟩
    · obtain rfl : i = N := by omega
      go_wp2
      refine bodyPost_ret (by simp [results, Try.results82, go_sem]; try rfl) rfl ?_
      exact ⟨⟨-1, rfl, Or.inl ⟨rfl, fun k hk => hs.out k hk⟩⟩, hbe.out⟩
end Ro
end Go.Proofs.Ytcgdhankllphgaa
