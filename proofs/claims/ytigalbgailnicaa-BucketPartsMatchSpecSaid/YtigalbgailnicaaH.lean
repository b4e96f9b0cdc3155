import Derived.Test.YtigalbgailnicaaS
namespace Go.Proofs.Ytigalbgailnicaa
set_option linter.unusedVariables false
set_option linter.unusedSimpArgs false
open Go.RowKit Go.Sort
theorem grow_cell (w : World) (d : Nat) (os : Array Obj) (b o : Nat) (h : b < w.heap.size) : (grow (redrawn w d) os).cell? ⟨b, o, none⟩ = w.cell? ⟨b, o, none⟩ :=
  (below_regrown w d os).cell (p := ⟨b, o, none⟩) h
theorem below_of_grow {W W' : World} {d : Nat} {os : Array Obj} (h : W' = grow (redrawn W d) os) : Below W.heap.size W W' := h ▸ below_regrown W d os
theorem lvl_step (c n d l a t u : Int) (hn : 0 ≤ n) (h1 : a ≤ t) (h2 : t ≤ u) : lvl c n d (lvl c n d l a t) t u = lvl c n d l a u := by
  unfold lvl
  have e : n * (u - a) = n * (t - a) + n * (u - t) := by rw [← Int.mul_add]; congr 1; omega
  have p : 0 ≤ n * (u - t) := Int.mul_nonneg hn (by omega)
  omega
theorem lvl_mono (c n d l a t u : Int) (hn : 0 ≤ n) (h2 : t ≤ u) : lvl c n d l a t ≤ lvl c n d l a u := by
  unfold lvl
  have : n * (t - a) ≤ n * (u - a) := Int.mul_le_mul_of_nonneg_left (by omega) hn
  omega
theorem lvl_less (c n d l a u x : Int) (hx : 0 ≤ x) : lvl c n d (l - x) a u ≤ lvl c n d l a u ∧ lvl c n d l a u - lvl c n d (l - x) a u ≤ x := by
  unfold lvl
  omega
theorem ceil_is {x n : Int} (hn : 1 ≤ n) : x ≤ n * ((x + n - 1) / n) ∧ n * ((x + n - 1) / n - 1) < x := by
  have h1 := Int.mul_ediv_add_emod (x + n - 1) n
  have h2 := Int.emod_lt_of_pos (x + n - 1) (by omega : 0 < n)
  have h3 := Int.emod_nonneg (x + n - 1) (by omega : n ≠ 0)
  rw [Int.mul_sub]
  omega
/-- Wait's instant is the first one at which there is enough. -/
theorem enough_at (c n d l a k t : Int) (hd : 1 ≤ d) (hn : 1 ≤ n) (hk : k ≤ c) (h : a + (k * d - l + n - 1) / n ≤ t) : k * d ≤ lvl c n d l a t := by
  unfold lvl
  obtain ⟨h1, -⟩ := ceil_is (x := k * d - l) hn
  have e : n * ((k * d - l + n - 1) / n) ≤ n * (t - a) := Int.mul_le_mul_of_nonneg_left (by omega) (by omega)
  have : k * d ≤ c * d := Int.mul_le_mul_of_nonneg_right hk (by omega)
  omega
theorem lacking_at (c n d l a k t : Int) (hn : 1 ≤ n) (h : t < a + (k * d - l + n - 1) / n) : lvl c n d l a t < k * d := by
  unfold lvl
  obtain ⟨-, h2⟩ := ceil_is (x := k * d - l) hn
  have e : n * (t - a) ≤ n * ((k * d - l + n - 1) / n - 1) := Int.mul_le_mul_of_nonneg_left (by omega) (by omega)
  omega
theorem lacking_cap (c n d l a k t : Int) (hd : 1 ≤ d) (h : c < k) : lvl c n d l a t < k * d := by
  unfold lvl
  have : c * d < k * d := Int.mul_lt_mul_of_pos_right h (by omega)
  omega
theorem lacking_still (c d l a k t : Int) (h : l < k * d) : lvl c 0 d l a t < k * d := by
  unfold lvl
  omega
end Go.Proofs.Ytigalbgailnicaa
