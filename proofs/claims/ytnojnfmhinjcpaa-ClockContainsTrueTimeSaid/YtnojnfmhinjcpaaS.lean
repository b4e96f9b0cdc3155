import Derived.Test.YtnojnfmhinjcpaaD
import Derived.Lib.QuietBelow
namespace Go.Proofs.Ytnojnfmhinjcpaa
set_option linter.unusedVariables false
set_option linter.unusedSimpArgs false
open Go.RowKit Go.Sort
set_option maxHeartbeats 400000 in
theorem search_any (n : Int) (a b : Value) (p : Int → Bool) (I : World → Prop) (w : World) (hn : 0 ≤ n) (hn2 : n ≤ 2199023255553)
    (hI : ∀ W W', I W → Below W.heap.size W W' → I W') (hw : I w)
    (hcall : ∀ i W, 0 ≤ i → i < n → I W → Calls Try.prog 43 #[.int .i64 i, a, b] W fun e w' => e = .returned (.bool (p i)) ∧ Below W.heap.size W w') :
    Calls Try.prog 42 #[.int .i64 n, .func (.func 43) #[] #[a, b]] w fun e w' => (∃ r : Int, e = .returned (.int .i64 r) ∧ 0 ≤ r ∧ r ≤ n ∧ (0 < r → p (r - 1) = false) ∧ (r < n → p r = true)) ∧ Below w.heap.size w w' := by
  go_enter Try.func42, Try.ntmps42
  go_wp2
  go_loopw [5, 6] (fun i j wr => ∃ x y : Int, i = .int .i64 x ∧ j = .int .i64 y ∧ 0 ≤ x ∧ x ≤ y ∧ y ≤ n ∧ I wr ∧ Below w.heap.size w wr ∧ Hid (0 < x → p (x - 1) = false) ∧ Hid (y < n → p y = true)) (fun i j _ => (intOf j - intOf i).toNat)
  case atStart => exact ⟨0, n, rfl, rfl, by omega, by omega, by omega, hw, Below.refl _ _, fun h => absurd h (by omega), fun h => absurd h (by omega)⟩
  case round =>
    obtain ⟨x, y, rfl, rfl, hx, hxy, hy, hIw, hB, h1, h2⟩ := hrel
    by_cases hlt : x < y
    · have hm1 : x ≤ (x + y) / 2 := by omega
      have hm2 : (x + y) / 2 < y := by omega
      go_wp2_with fail
      refine (hcall _ _ (by omega) (by omega) hIw).mono ?_
      rintro e w1 ⟨rfl, hb⟩
      have hI1 := hI _ _ hIw hb
      have hB1 := hB.trans (hb.mono hB.size)
      rcases hp : p ((x + y) / 2) with _ | _
      all_goals
        have HP := Lib.hid hp; clear hp
        go_wp2
        go_roundw
        case rel =>
          first
          | exact ⟨(x + y) / 2 + 1, y, rfl, rfl, by omega, by omega, by omega, hI1, hB1, fun _ => by rw [show (x + y) / 2 + 1 - 1 = (x + y) / 2 by omega]; exact HP.out, h2⟩
          | exact ⟨x, (x + y) / 2, rfl, rfl, by omega, by omega, by omega, hI1, hB1, h1, fun _ => HP.out⟩
        case measure => simp [intOf]; omega
    · go_wp2
      go_ret
      obtain rfl : x = y := by omega
      exact ⟨⟨x, rfl, hx, hy, h1, h2⟩, hB⟩
end Go.Proofs.Ytnojnfmhinjcpaa
