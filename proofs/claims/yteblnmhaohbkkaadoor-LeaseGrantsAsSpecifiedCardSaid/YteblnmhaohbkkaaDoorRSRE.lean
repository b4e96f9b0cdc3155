/- Records: cells A, 16 bytes B, cells C, 16 bytes S (stamps, epochs, heads). -/
import Derived.Test.YteblnmhaohbkkaaDoorRSZA
namespace Go.Proofs.YteblnmhaohbkkaaDoor
set_option linter.unusedVariables false
set_option linter.unusedSimpArgs false
open Go.RowKit Go.Sort
def recL (A : List Value) (B : List Nat) (C : List Value) (S : List Nat) : List Value := A ++ B.map Hs.bv ++ (C ++ S.map Hs.bv)
def recC (A : List Value) (B : List Nat) (C : List Value) (S : List Nat) : Array Value := (recL A B C S).toArray
section
variable {X : World} {g : Nat} {t : TypeId} {A C : List Value} {B S : List Nat}
theorem bytes_at {n : Nat} (h : X.rangeAt g n (B.map Hs.bv)) (hb : ∀ x ∈ B, x < 256) : Hs.BytesA X (some ⟨g, n, none⟩) B := fun k hk => by
  have e : B[k]? = some (B.getD k 0) := by rw [List.getD_eq_getElem?_getD, List.getElem?_eq_getElem hk]; rfl
  refine ⟨g, n, rfl, h k _ (by rw [List.getElem?_map, e]; rfl), hb _ ?_⟩
  rw [List.getD_eq_getElem?_getD, List.getElem?_eq_getElem hk]
  exact List.getElem_mem hk
end
theorem ints_blk {X : World} {g : Nat} {l : List Int} (h : Blk X g 3 (l.map fun x => Value.int .i64 x).toArray) : Hs.IntsA X (some ⟨g, 0, none⟩) l := fun k hk => by
  refine ⟨g, 0, rfl, ?_⟩
  rw [Nat.zero_add, h.cell]
  simp only [List.getElem?_toArray, List.getElem?_map, List.getElem?_eq_getElem hk]
  rw [List.getD_eq_getElem?_getD, List.getElem?_eq_getElem hk]
  rfl
theorem intsL_le (l : List Int) (h : ∀ x ∈ l, i64Ok x) (hl : l.length ≤ 1000) : (Hs.intsL l).length ≤ 10 + 10 * l.length := by
  unfold Hs.intsL
  rw [List.length_append]
  have h0 := (Hs.Wi.enc_len (l.length : Int) (by omega) (by omega)).2
  have h1 : (l.flatMap Hs.Wi.enc).length ≤ 10 * l.length := by
    clear h0 hl
    induction l with
    | nil => simp
    | cons x xs ih =>
      have hx := (Hs.Wi.enc_len x (h x (by simp)).1 (h x (by simp)).2).2
      have := ih fun y hy => h y (by simp [hy])
      simp only [List.flatMap_cons, List.length_append, List.length_cons]
      omega
  omega
/-- The part that stands for integers. -/
def numP (l : List Int) : ByteArray := Hs.strB (Hs.intsL l)
end Go.Proofs.YteblnmhaohbkkaaDoor
