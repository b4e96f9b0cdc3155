/- What the bound on an input's bulk says of its parts. -/
import Derived.Test.YtlihndekeaefcaaO
namespace Go.Proofs.Ytlihndekeaefcaa
set_option linter.unusedVariables false
set_option linter.unusedSimpArgs false
open Go.ChangeShapes
theorem bulk_one {H : Type} (d : DataW H) : 1 ≤ Rows.uptoBulk d := by
  cases d with
  | lit l => cases l <;> simp [Rows.uptoBulk]
  | nil => simp [Rows.uptoBulk]
  | ptr d => simp [Rows.uptoBulk]
  | slice elems spare => simp [Rows.uptoBulk]
  | agg parts => simp [Rows.uptoBulk]
  | iface t d => simp [Rows.uptoBulk]
  | map entries => simp [Rows.uptoBulk]
  | held h => simp [Rows.uptoBulk]
theorem bulk_length {H : Type} (l : List (DataW H)) : l.length ≤ Rows.uptoBulkAll l := by
  induction l with
  | nil => simp [Rows.uptoBulkAll]
  | cons x r ih => have := bulk_one x; simp only [Rows.uptoBulkAll, List.length_cons]; omega
theorem bulk_slice {H : Type} {d : DataW H} {n : Nat} (h : SliceLen d n) : n ≤ Rows.uptoBulk d := by
  rcases h with rfl | ⟨elems, spare, rfl, rfl⟩
  · omega
  · have := bulk_length elems
    simp only [Rows.uptoBulk]
    omega
theorem bulk_strs {H : Type} : ∀ l : List ByteArray, Rows.uptoBulkAll (strs (H := H) l) = l.length + letters l
  | [] => rfl
  | s :: l => by
    have := bulk_strs (H := H) l
    unfold strs at this ⊢
    simp only [List.map_cons, Rows.uptoBulkAll, Rows.uptoBulk, this, List.length_cons, letters, Array.length_toList]
    have : s.data.size = s.size := rfl
    omega
theorem bulk_texts {H : Type} {d : DataW H} {l : List ByteArray} (h : l = [] ∨ ∃ rest, d = .slice (strs l) rest) : l.length + letters l ≤ Rows.uptoBulk d := by
  rcases h with rfl | ⟨rest, rfl⟩
  · simp [letters]
  · have := bulk_strs (H := H) l
    simp only [Rows.uptoBulk]
    omega
theorem bulk_str {H : Type} (s : ByteArray) : s.size ≤ Rows.uptoBulk (DataW.lit (H := H) (.string s.data.toList)) := by
  simp only [Rows.uptoBulk, Array.length_toList]
  have : s.data.size = s.size := rfl
  omega
end Go.Proofs.Ytlihndekeaefcaa
