import Derived.Test.YtcgdhankllphgaaRAmXb
import Derived.Test.YtcgdhankllphgaaRA7
import Derived.Test.YtcgdhankllphgaaRAmTi
namespace Go.Proofs.Ytcgdhankllphgaa
set_option linter.unusedVariables false
set_option linter.unusedSimpArgs false
set_option linter.unusedSectionVars false
namespace Am
open Go
set_option maxRecDepth 100000
def wC (cap : Int) (B P Q D K : List (List AV)) (T : Int) (C : List AV) (z : Bool) : List AV := iv cap :: iv 100 :: .sl B :: iv 100 :: .sl P :: iv 100 :: .sl Q :: .sl D :: .sl K :: iv T :: (C ++ [bv z])
abbrev u8 (n : Int) : AV := .v (.int .u8 n)
abbrev evC (k ga wi n af ea la : Int) : AV := .agg [u8 k, u8 ga, u8 wi, u8 n, u8 af, u8 ea, u8 la]
section
variable {cap T : Int} {B P Q D K : List (List AV)} {C : List AV} {z : Bool}
theorem tmod_in {x y : Int} (hx : 0 ≤ x) (hy : 0 < y) : 0 ≤ x.tmod y ∧ x.tmod y < y := by
  rw [Int.tmod_eq_emod_of_nonneg hx]
  exact ⟨Int.emod_nonneg _ (by omega), Int.emod_lt_of_pos _ hy⟩
theorem tdiv_in {x y : Int} (hx : 0 ≤ x) (hy : 0 < y) : 0 ≤ x.tdiv y ∧ x.tdiv y ≤ x := by
  rw [Int.tdiv_eq_ediv_of_nonneg hx]
  exact ⟨Int.ediv_nonneg hx (by omega), Int.ediv_le_self _ hx⟩
theorem wC_len (hC : C.length = 40) : (wC cap B P Q D K T C z).length = 51 := by simp [wC, hC]
theorem wC_map (pC : plain C) {f : AV → AV} (hf : ∀ v, f (.v v) = .v v) (hs : ∀ l, f (.sl l) = .sl l) : (wC cap B P Q D K T C z).map f = wC cap B P Q D K T C z := by
  simp only [wC, List.map_cons, List.map_append, List.map_nil, pC.map hf, hf, hs, iv, bv]
theorem wC_ren1 (pC : plain C) (ρ : Nat → Nat) : (wC cap B P Q D K T C z).map (·.ren1 ρ) = wC cap B P Q D K T C z := wC_map pC (fun _ => rfl) (fun _ => rfl)
theorem wC_ren (pC : plain C) (ρ : Nat → Nat) : (AV.agg (wC cap B P Q D K T C z)).ren ρ = .agg (wC cap B P Q D K T C z) := congrArg AV.agg (wC_ren1 pC ρ)
theorem wC_all1 (pC : plain C) : (wC cap B P Q D K T C z).all (·.ok1) = true := by
  simp only [wC, List.all_cons, List.all_append, List.all_nil, pC.all1]
  rfl
theorem wC_ok (pC : plain C) : (AV.agg (wC cap B P Q D K T C z)).ok3 = true := by
  show (wC cap B P Q D K T C z).all (·.ok1) = true
  exact wC_all1 pC
theorem wC_one (pC : plain C) : allOne (wC cap B P Q D K T C z) := by
  intro x hx
  simp only [wC, List.mem_cons, List.mem_append, List.not_mem_nil, or_false] at hx
  rcases hx with rfl | rfl | rfl | rfl | rfl | rfl | rfl | rfl | rfl | rfl | hx | rfl <;> first | rfl | exact pC.one x hx
theorem c_get {x0 x1 x2 x3 x4 x5 x6 x7 x8 x9 z y : AV} {m : Nat} (hC : C.length = 40) (hm : m < 40) (h : C[m]? = some y) : (x0 :: x1 :: x2 :: x3 :: x4 :: x5 :: x6 :: x7 :: x8 :: x9 :: (C ++ [z]))[10 + m * 1]? = some y := by
  rw [show 10 + m * 1 = m + 1 + 1 + 1 + 1 + 1 + 1 + 1 + 1 + 1 + 1 by omega]
  simp only [List.getElem?_cons_succ]
  rw [List.getElem?_append_left (by omega)]
  exact h
theorem c_put {x0 x1 x2 x3 x4 x5 x6 x7 x8 x9 z y : AV} {m : Nat} (hC : C.length = 40) (hm : m < 40) : List.take (10 + m * 1) (x0 :: x1 :: x2 :: x3 :: x4 :: x5 :: x6 :: x7 :: x8 :: x9 :: (C ++ [z])) ++ y :: List.drop (10 + m * 1) (x1 :: x2 :: x3 :: x4 :: x5 :: x6 :: x7 :: x8 :: x9 :: (C ++ [z])) = x0 :: x1 :: x2 :: x3 :: x4 :: x5 :: x6 :: x7 :: x8 :: x9 :: (C.set m y ++ [z]) := by
  have e : (x0 :: x1 :: x2 :: x3 :: x4 :: x5 :: x6 :: x7 :: x8 :: x9 :: (C ++ [z])).set (10 + m * 1) y = x0 :: x1 :: x2 :: x3 :: x4 :: x5 :: x6 :: x7 :: x8 :: x9 :: (C.set m y ++ [z]) := by
    rw [show 10 + m * 1 = m + 1 + 1 + 1 + 1 + 1 + 1 + 1 + 1 + 1 + 1 by omega]
    simp only [List.set_cons_succ]
    rw [List.set_append_left _ _ (by omega)]
  show List.take (10 + m * 1) (x0 :: x1 :: x2 :: x3 :: x4 :: x5 :: x6 :: x7 :: x8 :: x9 :: (C ++ [z])) ++ y :: List.drop (10 + m * 1 + 1) (x0 :: x1 :: x2 :: x3 :: x4 :: x5 :: x6 :: x7 :: x8 :: x9 :: (C ++ [z])) = _
  rw [← e, List.set_eq_take_append_cons_drop, if_pos (by simp [hC]; omega)]
theorem c_len (hC : C.length = 40) (y : AV) : (C ++ [y]).length = 41 := by simp [hC]
theorem c_at (hC : C.length = 40) (y : AV) : (C ++ [y])[40]? = some y := by rw [← hC]; simp
theorem c_t40 (hC : C.length = 40) (y : AV) : List.take 40 (C ++ [y]) = C := List.take_left' hC
theorem c_t41 (hC : C.length = 40) (y : AV) : List.take 41 (C ++ [y]) = C ++ [y] := List.take_of_length_le (by simp [hC])
theorem c_d41 (hC : C.length = 40) (y : AV) : List.drop 41 (C ++ [y]) = [] := List.drop_eq_nil_of_le (by simp [hC])
end
end Am
end Go.Proofs.Ytcgdhankllphgaa
