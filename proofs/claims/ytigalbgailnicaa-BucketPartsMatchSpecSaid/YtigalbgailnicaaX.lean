/- Both programs give the same, whatever they are asked. -/
import Derived.Test.YtigalbgailnicaaWi
import Derived.Test.YtigalbgailnicaaWr
import Derived.Test.YtigalbgailnicaaMi
import Derived.Test.YtigalbgailnicaaMr
import Derived.Test.YtigalbgailnicaaTi
import Derived.Test.YtigalbgailnicaaTr
namespace Go.Proofs.Ytigalbgailnicaa
set_option linter.unusedVariables false
set_option linter.unusedSimpArgs false
open Go.RowKit
theorem valid_both (c n d l a : Int) : ∃ r, (∀ w, Calls Try.prog 20 #[bk c n d l a] w fun e w' => e = .returned (.bool r) ∧ Below w.heap.size w w') ∧ (∀ w, Calls Try.prog 21 #[bk c n d l a] w fun e w' => e = .returned (.bool r) ∧ Below w.heap.size w w') := by
  by_cases h : OkB c n d l a
  · exact ⟨true, fun w => valid_yes _ _ _ _ _ w h, fun w => validref_yes _ _ _ _ _ w h⟩
  · exact ⟨false, fun w => valid_no _ _ _ _ _ w h, fun w => validref_no _ _ _ _ _ w h⟩
theorem tokens_both (c n d l a : Int) : ∃ r, (∀ w, Calls Try.prog 22 #[bk c n d l a] w fun e w' => e = .returned (.int .i64 r) ∧ Below w.heap.size w w') ∧ (∀ w, Calls Try.prog 23 #[bk c n d l a] w fun e w' => e = .returned (.int .i64 r) ∧ Below w.heap.size w w') := by
  by_cases h : OkB c n d l a
  · exact ⟨_, fun w => tokens_ok _ _ _ _ _ w h, fun w => tokensref_ok _ _ _ _ _ w h⟩
  · exact ⟨_, fun w => tokens_no _ _ _ _ _ w h, fun w => tokensref_no _ _ _ _ _ w h⟩
theorem new_both (c n d a : Int) : ∃ c2 n2 d2 l2 a2 e2, (∀ w, Calls Try.prog 9 #[.int .i64 c, .int .i64 n, .int .i64 d, .int .i64 a] w fun e w' => e = .returned (.tuple #[bk c2 n2 d2 l2 a2, .int .i64 e2]) ∧ Below w.heap.size w w') ∧
    (∀ w, Calls Try.prog 14 #[.int .i64 c, .int .i64 n, .int .i64 d, .int .i64 a] w fun e w' => e = .returned (made c2 n2 d2 l2 a2 e2) ∧ Below w.heap.size w w') := by
  by_cases o : c < 0 ∨ 1073741824 < c ∨ d < 1 ∨ 1048576 < d
  · exact ⟨_, _, _, _, _, _, fun w => new_out c n d a w o, fun w => newref_out c n d a w o⟩
  · by_cases h : OkB c n d (c * d) a
    · exact ⟨_, _, _, _, _, _, fun w => new_ok c n d a w h, fun w => newref_ok c n d a w h⟩
    · exact ⟨_, _, _, _, _, _, fun w => new_no c n d a w (by omega) (by omega) (by omega) (by omega) h, fun w => newref_no c n d a w (by omega) (by omega) (by omega) (by omega) h⟩
theorem refill_both (c n d l a t : Int) : ∃ c2 n2 d2 l2 a2 e2, (∀ w, Calls Try.prog 10 #[bk c n d l a, .int .i64 t] w fun e w' => e = .returned (.tuple #[bk c2 n2 d2 l2 a2, .int .i64 e2]) ∧ Below w.heap.size w w') ∧
    (∀ w, Calls Try.prog 15 #[bk c n d l a, .int .i64 t] w fun e w' => e = .returned (made c2 n2 d2 l2 a2 e2) ∧ Below w.heap.size w w') := by
  by_cases h : OkB c n d l a
  · by_cases ht : t < a ∨ 1099511627776 < t
    · exact ⟨_, _, _, _, _, _, fun w => refill_time c n d l a t w h ht, fun w => refillref_time c n d l a t w h ht⟩
    · exact ⟨_, _, _, _, _, _, fun w => refill_ok c n d l a t w h (by omega) (by omega), fun w => refillref_ok c n d l a t w h (by omega) (by omega)⟩
  · exact ⟨_, _, _, _, _, _, fun w => refill_arg c n d l a t w h, fun w => refillref_arg c n d l a t w h⟩
theorem take_both (c n d l a t k : Int) : ∃ c2 n2 d2 l2 a2 e2, (∀ w, Calls Try.prog 11 #[bk c n d l a, .int .i64 t, .int .i64 k] w fun e w' => e = .returned (.tuple #[bk c2 n2 d2 l2 a2, .int .i64 e2]) ∧ Below w.heap.size w w') ∧
    (∀ w, Calls Try.prog 16 #[bk c n d l a, .int .i64 t, .int .i64 k] w fun e w' => e = .returned (made c2 n2 d2 l2 a2 e2) ∧ Below w.heap.size w w') := by
  by_cases h : OkB c n d l a
  · by_cases hk : k < 1 ∨ 1073741824 < k
    · exact ⟨_, _, _, _, _, _, fun w => take_num c n d l a t k w h hk, fun w => takeref_num c n d l a t k w h hk⟩
    · by_cases ht : t < a ∨ 1099511627776 < t
      · exact ⟨_, _, _, _, _, _, fun w => take_time c n d l a t k w h (by omega) (by omega) ht, fun w => takeref_time c n d l a t k w h (by omega) (by omega) ht⟩
      · by_cases hl : k * d ≤ lvl c n d l a t
        · exact ⟨_, _, _, _, _, _, fun w => take_ok c n d l a t k w h (by omega) (by omega) (by omega) (by omega) hl, fun w => takeref_ok c n d l a t k w h (by omega) (by omega) (by omega) (by omega) hl⟩
        · exact ⟨_, _, _, _, _, _, fun w => take_state c n d l a t k w h (by omega) (by omega) (by omega) (by omega) (by omega), fun w => takeref_state c n d l a t k w h (by omega) (by omega) (by omega) (by omega) (by omega)⟩
  · exact ⟨_, _, _, _, _, _, fun w => take_arg c n d l a t k w h, fun w => takeref_arg c n d l a t k w h⟩
theorem wait_both (c n d l a k : Int) : ∃ r e2, (∀ w, Calls Try.prog 12 #[bk c n d l a, .int .i64 k] w fun e w' => e = .returned (.tuple #[.int .i64 r, .int .i64 e2]) ∧ Below w.heap.size w w') ∧
    (∀ w, Calls Try.prog 17 #[bk c n d l a, .int .i64 k] w fun e w' => e = .returned (num r e2) ∧ Below w.heap.size w w') := by
  by_cases h : OkB c n d l a
  · have h3 := h.2.2.1
    by_cases k1 : k < 1
    · exact ⟨_, _, fun w => wait_num1 c n d l a k w h k1, fun w => waitref_num1 c n d l a k w h k1⟩
    by_cases k2 : 1073741824 < k
    · exact ⟨_, _, fun w => wait_num2 c n d l a k w h k2, fun w => waitref_num2 c n d l a k w h k2⟩
    by_cases k3 : c < k
    · exact ⟨_, _, fun w => wait_limit c n d l a k w h (by omega) (by omega) k3, fun w => waitref_limit c n d l a k w h (by omega) (by omega) k3⟩
    by_cases k4 : k * d ≤ l
    · exact ⟨_, _, fun w => wait_now c n d l a k w h (by omega) (by omega) (by omega) k4, fun w => waitref_now c n d l a k w h (by omega) (by omega) (by omega) k4⟩
    by_cases k5 : n = 0
    · exact ⟨_, _, fun w => wait_never c n d l a k w h (by omega) (by omega) (by omega) (by omega) k5, fun w => waitref_never c n d l a k w h (by omega) (by omega) (by omega) (by omega) k5⟩
    by_cases k6 : a + (k * d - l + n - 1) / n ≤ 1099511627776
    · exact ⟨_, _, fun w => wait_at c n d l a k w h (by omega) (by omega) (by omega) (by omega) (by omega) k6, fun w => waitref_at c n d l a k w h (by omega) (by omega) (by omega) (by omega) (by omega) k6⟩
    · exact ⟨_, _, fun w => wait_late c n d l a k w h (by omega) (by omega) (by omega) (by omega) (by omega) (by omega), fun w => waitref_late c n d l a k w h (by omega) (by omega) (by omega) (by omega) (by omega) (by omega)⟩
  · exact ⟨_, _, fun w => wait_arg c n d l a k w h, fun w => waitref_arg c n d l a k w h⟩
theorem most_both (c n d l a f t : Int) : ∃ r e2, (∀ w, Calls Try.prog 13 #[bk c n d l a, .int .i64 f, .int .i64 t] w fun e w' => e = .returned (.tuple #[.int .i64 r, .int .i64 e2]) ∧ Below w.heap.size w w') ∧
    (∀ w, Calls Try.prog 18 #[bk c n d l a, .int .i64 f, .int .i64 t] w fun e w' => e = .returned (num r e2) ∧ Below w.heap.size w w') := by
  by_cases h : OkB c n d l a
  · by_cases k1 : t < f
    · exact ⟨_, _, fun w => most_turn c n d l a f t w h k1, fun w => mostref_turn c n d l a f t w h k1⟩
    by_cases k2 : f < a ∨ 1099511627776 < f
    · exact ⟨_, _, fun w => most_time c n d l a f t w h (by omega) k2, fun w => mostref_time c n d l a f t w h (by omega) k2⟩
    by_cases k3 : f = t
    · exact ⟨_, _, fun w => most_same c n d l a f t w h (by omega) (by omega) k3, fun w => mostref_same c n d l a f t w h (by omega) (by omega) k3⟩
    by_cases k4 : 1099511627776 < t
    · exact ⟨_, _, fun w => most_big c n d l a f t w h (by omega) (by omega) (by omega) k4, fun w => mostref_big c n d l a f t w h (by omega) (by omega) (by omega) k4⟩
    · exact ⟨_, _, fun w => most_ok c n d l a f t w h (by omega) (by omega) (by omega) (by omega), fun w => mostref_ok c n d l a f t w h (by omega) (by omega) (by omega) (by omega)⟩
  · exact ⟨_, _, fun w => most_arg c n d l a f t w h, fun w => mostref_arg c n d l a f t w h⟩
end Go.Proofs.Ytigalbgailnicaa
