/- Records: cells A, 16 bytes B, cells C, 16 bytes S (stamps, epochs, heads). -/
import Derived.Test.YteblnmhaohbkkaaGreatDoorQSZA
namespace Go.Proofs.YteblnmhaohbkkaaGreatDoor
set_option linter.unusedVariables false
set_option linter.unusedSimpArgs false
open Go.RowKit Go.Sort
def recL (A : List Value) (B : List Nat) (C : List Value) (S : List Nat) : List Value := A ++ B.map Hs.bv ++ (C ++ S.map Hs.bv)
def recC (A : List Value) (B : List Nat) (C : List Value) (S : List Nat) : Array Value := (recL A B C S).toArray
theorem rec_size (A : List Value) (B : List Nat) (C : List Value) (S : List Nat) (hB : B.length = 16) (hS : S.length = 16) : (recC A B C S).size = A.length + C.length + 32 := by
  unfold recC recL
  simp [hB, hS]
  omega
theorem rec_one (A : List Value) (B : List Nat) (C : List Value) (S : List Nat) (hA : A.all (·.oneCell') = true) (hC : C.all (·.oneCell') = true) : (recC A B C S).all (·.oneCell') = true := by
  unfold recC recL
  rw [List.all_toArray]
  simp only [List.all_append, Bool.and_eq_true, List.all_map]
  exact ⟨⟨hA, by rw [List.all_eq_true]; intro x _; rfl⟩, hC, by rw [List.all_eq_true]; intro x _; rfl⟩
section
variable {X : World} {g : Nat} {t : TypeId} {A C : List Value} {B S : List Nat}
theorem rec_B (h : Blk X g t (recC A B C S)) : X.rangeAt g A.length (B.map Hs.bv) := range_of (A := A) h
theorem rec_at (h : Blk X g t (recC A B C S)) {i : Nat} {v : Value} (hv : A[i]? = some v) : X.cell? ⟨g, i, none⟩ = some v := by
  rw [h.cell]
  unfold recC recL
  have hi := (List.getElem?_eq_some_iff.1 hv).1
  simp only [List.getElem?_toArray]
  rw [List.append_assoc, List.getElem?_append_left hi]
  exact hv
theorem rec_CS (h : Blk X g t (recC A B C S)) (hB : B.length = 16) : X.rangeAt g (A.length + 16) C := by
  have := range_of (A := A ++ B.map Hs.bv) (M := C) (Z := S.map Hs.bv) (W := X) (g := g) (t := t) (by rw [List.append_assoc (A ++ B.map Hs.bv)]; exact h)
  simpa [hB] using this
theorem rec_on (h : Blk X g t (recC A B C S)) (hB : B.length = 16) {j : Nat} {v : Value} (hv : C[j]? = some v) : X.cell? ⟨g, A.length + 16 + j, none⟩ = some v := rec_CS h hB j v hv
theorem rec_S (h : Blk X g t (recC A B C S)) (hB : B.length = 16) : X.rangeAt g (A.length + 16 + C.length) (S.map Hs.bv) := by
  have := range_of (A := A ++ B.map Hs.bv ++ C) (M := S.map Hs.bv) (Z := []) (W := X) (g := g) (t := t) (by rw [List.append_nil, List.append_assoc (A ++ B.map Hs.bv)]; exact h)
  rw [show (A ++ B.map Hs.bv ++ C).length = A.length + 16 + C.length by simp only [List.length_append, List.length_map, hB]] at this
  exact this
theorem rec_sub (h : Blk X g t (recC A B C S)) (hB : B.length = 16) {n : Nat} {M R : List Value} {L : List Value} (hC : C = L ++ M ++ R) (hn : n = A.length + 16 + L.length) : X.rangeAt g n M := by
  subst hn
  intro j v hv
  have hj := (List.getElem?_eq_some_iff.1 hv).1
  have := rec_on h hB (j := L.length + j) (v := v) (by rw [hC, List.append_assoc, List.getElem?_append_right (by omega), Nat.add_sub_cancel_left, List.getElem?_append_left hj]; exact hv)
  rw [← Nat.add_assoc] at this
  exact this
theorem rec_set (A : List Value) (B : List Nat) (C : List Value) (S : List Nat) (hB : B.length = 16) (n j : Nat) (v : Value) (hn : n = A.length + 16 + j) (hj : j < C.length) : (recC A B C S).setIfInBounds n v = recC A B (C.set j v) S := by
  subst hn
  unfold recC recL
  simp only [List.setIfInBounds_toArray]
  rw [List.set_append_right _ _ (by simp [hB]), List.set_append_left _ _ (by simp [hB]; exact hj)]
  simp [hB]
theorem rec_splice (A : List Value) (B : List Nat) (C : List Value) (S V : List Nat) (hB : B.length = 16) (hS : S.length = 16) (hV : V.length = 16) (n : Nat) (hn : n = A.length + 16 + C.length) : splice (recL A B C S) n (Hs.bvs V).toList = recL A B C V := by
  subst hn
  unfold splice recL Hs.bvs
  have e : A ++ B.map Hs.bv ++ (C ++ S.map Hs.bv) = (A ++ B.map Hs.bv ++ C) ++ S.map Hs.bv := by rw [List.append_assoc (A ++ B.map Hs.bv)]
  have l : (A ++ B.map Hs.bv ++ C).length = A.length + 16 + C.length := by simp only [List.length_append, List.length_map, hB]
  rw [e, List.take_left' l, List.drop_eq_nil_of_le (by simp [hV, hB, hS]; try omega), List.append_nil, ← List.append_assoc]
theorem bytes_at {n : Nat} (h : X.rangeAt g n (B.map Hs.bv)) (hb : ∀ x ∈ B, x < 256) : Hs.BytesA X (some ⟨g, n, none⟩) B := fun k hk => by
  have e : B[k]? = some (B.getD k 0) := by rw [List.getD_eq_getElem?_getD, List.getElem?_eq_getElem hk]; rfl
  refine ⟨g, n, rfl, h k _ (by rw [List.getElem?_map, e]; rfl), hb _ ?_⟩
  rw [List.getD_eq_getElem?_getD, List.getElem?_eq_getElem hk]
  exact List.getElem_mem hk
end
theorem ints_blk {X : World} {g : Nat} {l : List Int} (h : Blk X g 3 (l.map fun x => Value.int .i64 x).toArray) : Hs.IntsA X (some ⟨g, 0, none⟩) l := fun k hk => by
  refine ⟨g, 0, rfl, ?_⟩
  rw [Nat.zero_add, h.cell]
  simp only [List.getElem?_toArray, List.getElem?_map, List.getElem?_eq_getElem hk]
  rw [List.getD_eq_getElem?_getD, List.getElem?_eq_getElem hk]
  rfl
theorem intsL_le (l : List Int) (h : ∀ x ∈ l, i64Ok x) (hl : l.length ≤ 1000) : (Hs.intsL l).length ≤ 10 + 10 * l.length := by
  unfold Hs.intsL
  rw [List.length_append]
  have h0 := (Hs.Wi.enc_len (l.length : Int) (by omega) (by omega)).2
  have h1 : (l.flatMap Hs.Wi.enc).length ≤ 10 * l.length := by
    clear h0 hl
    induction l with
    | nil => simp
    | cons x xs ih =>
      have hx := (Hs.Wi.enc_len x (h x (by simp)).1 (h x (by simp)).2).2
      have := ih fun y hy => h y (by simp [hy])
      simp only [List.flatMap_cons, List.length_append, List.length_cons]
      omega
  omega
/-- The part that stands for integers. -/
def numP (l : List Int) : ByteArray := Hs.strB (Hs.intsL l)
theorem numP_le (l : List Int) (h : ∀ x ∈ l, i64Ok x) (hl : l.length ≤ 30) : (numP l).size ≤ 400 := by
  unfold numP
  rw [Hs.strB_size]
  have := intsL_le l h (by omega)
  omega
theorem nums_any (l : List Int) (n : Nat) (hn : l.length = n) (h : ∀ x ∈ l, i64Ok x) (hl : n ≤ 30) (g : Nat) (X : World) (hb : Blk X g 3 (l.map fun x => Value.int .i64 x).toArray) :
    Calls Tryz.prog 61 #[.slice (some ⟨g, 0, none⟩) n n] X fun e w' => e = .returned (.string (numP l)) ∧ Below X.heap.size X w' := by
  have := Hs.numbers_any (some ⟨g, 0, none⟩) n l X (ints_blk hb) (fun k hk => h _ (by rw [List.getD_eq_getElem?_getD, List.getElem?_eq_getElem hk]; exact List.getElem_mem hk)) (by omega) (by have := intsL_le l h (by omega); omega) (intsL_lt _)
  rw [hn] at this
  exact this
theorem strs_blk {X : World} {g : Nat} {l : List ByteArray} (h : Blk X g 9 (l.map fun x => Value.string x).toArray) : StR X (some ⟨g, 0, none⟩) l := fun i x hx => by
  refine ⟨g, 0, rfl, fun j u hu => ?_⟩
  have hj : j = 0 := by have := (List.getElem?_eq_some_iff.1 hu).1; simpa [encT] using this
  subst hj
  obtain rfl : Value.string x = u := by simpa [encT] using hu
  rw [show 0 + i * 1 + 0 = i by omega, h.cell i]
  simp [hx]
end Go.Proofs.YteblnmhaohbkkaaGreatDoor
