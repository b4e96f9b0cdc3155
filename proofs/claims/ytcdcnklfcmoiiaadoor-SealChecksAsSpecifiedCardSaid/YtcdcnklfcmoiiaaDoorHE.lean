/- Ported from another seat (wip/hash/E.src, by wip/port.py): contracts that this chapter calls. -/
import Derived.Test.YtcdcnklfcmoiiaaDoorHN
import Derived.Laws.CopyOwn
namespace Go.Proofs.YtcdcnklfcmoiiaaDoor
set_option linter.unusedVariables false
set_option linter.unusedSimpArgs false
namespace Hs
open Go
structure Is (s : St) (r m : List Nat) : Prop where
  st : s = blocks m (m.length / 64)
  len : r.length = 64
  lt : ∀ x ∈ r, x < 256
  mlt : ∀ x ∈ m, x < 256
  rest : r.take (m.length % 64) = m.drop (64 * (m.length / 64))
set_option maxRecDepth 100000 in
theorem is_begin (r : List Nat) (h : r.length = 64) (hr : ∀ x ∈ r, x < 256) : Is st0 r [] := ⟨rfl, h, hr, by simp, by simp⟩
set_option maxRecDepth 100000 in
theorem Is.ok {s : St} {r m : List Nat} (h : Is s r m) : s.Ok := by rw [h.st]; exact blocks_ok _ _
set_option maxRecDepth 100000 in
theorem splice_mem {L x : List Nat} {u : Nat} {P : Nat → Prop} (h : ∀ y ∈ L, P y) (k : ∀ y ∈ x, P y) : ∀ y ∈ splice L u x, P y := by
  intro y hy
  unfold splice at hy
  simp only [List.mem_append] at hy
  rcases hy with hy | hy | hy
  · exact h y (List.mem_of_mem_take hy)
  · exact k y hy
  · exact h y (List.mem_of_mem_drop hy)
set_option maxRecDepth 100000 in
theorem splice_take {L x : List Nat} {u : Nat} (h : u + x.length ≤ L.length) : (splice L u x).take (u + x.length) = L.take u ++ x := by
  unfold splice
  rw [← List.append_assoc, List.take_append_of_le_length (by simp; omega), List.take_of_length_le (by simp; omega)]
set_option maxRecDepth 100000 in
theorem splice_whole {L x : List Nat} {u : Nat} (h : u + x.length = L.length) : splice L u x = L.take u ++ x := by
  unfold splice
  rw [List.drop_eq_nil_of_le (by omega), List.append_nil]
set_option maxRecDepth 100000 in
theorem drop_app (m x : List Nat) (n : Nat) (h : n ≤ m.length) : (m ++ x).drop n = m.drop n ++ x := List.drop_append_of_le_length h
set_option maxRecDepth 100000 in
theorem blocks_app (m x : List Nat) (n : Nat) (h : 64 * n ≤ m.length) : blocks (m ++ x) n = blocks m n :=
  blocks_same (m ++ x) m n (by rw [List.take_append_of_le_length h]) n (Nat.le_refl _)
set_option maxRecDepth 100000 in
/-- A piece that doesn't fill the block. -/
theorem Is.some {s : St} {r m : List Nat} (h : Is s r m) (x : List Nat) (hx : ∀ y ∈ x, y < 256) (hn : m.length % 64 + x.length < 64) : Is s (splice r (m.length % 64) x) (m ++ x) := by
  have e1 : (m ++ x).length / 64 = m.length / 64 := by rw [List.length_append]; omega
  have e2 : (m ++ x).length % 64 = m.length % 64 + x.length := by rw [List.length_append]; omega
  have hl := h.len
  refine ⟨?_, ?_, splice_mem h.lt hx, ?_, ?_⟩
  · rw [e1, blocks_app _ _ _ (by omega)]; exact h.st
  · rw [length_splice _ _ _ (by omega)]; exact hl
  · intro y hy
    rcases List.mem_append.1 hy with hy | hy
    · exact h.mlt y hy
    · exact hx y hy
  · rw [e1, e2, splice_take (by omega), drop_app _ _ _ (by omega), h.rest]
set_option maxRecDepth 100000 in
/-- A piece that fills it. -/
theorem Is.full {s : St} {r m : List Nat} (h : Is s r m) (x : List Nat) (hx : ∀ y ∈ x, y < 256) (hn : m.length % 64 + x.length = 64) : Is (comp s (splice r (m.length % 64) x)) (splice r (m.length % 64) x) (m ++ x) := by
  have e1 : (m ++ x).length / 64 = m.length / 64 + 1 := by rw [List.length_append]; omega
  have e2 : (m ++ x).length % 64 = 0 := by rw [List.length_append]; omega
  have hl := h.len
  have e3 : splice r (m.length % 64) x = m.drop (64 * (m.length / 64)) ++ x := by rw [splice_whole (by omega), h.rest]
  refine ⟨?_, ?_, splice_mem h.lt hx, ?_, ?_⟩
  · rw [e1, blocks, blocks_app _ _ _ (by omega), ← h.st, drop_app _ _ _ (by omega), e3]
    congr 1
    rw [List.take_of_length_le (by rw [List.length_append, List.length_drop]; omega)]
  · rw [length_splice _ _ _ (by omega)]; exact hl
  · intro y hy
    rcases List.mem_append.1 hy with hy | hy
    · exact h.mlt y hy
    · exact hx y hy
  · rw [e1, e2, List.take_zero, List.drop_eq_nil_of_le (by rw [List.length_append]; omega)]
/-- The block with the first padding byte and zeros. -/
def tailB (r : List Nat) (u : Nat) : List Nat := r.take u ++ [128] ++ List.replicate (63 - u) 0
set_option maxRecDepth 100000 in
theorem tailB_len {r : List Nat} {u : Nat} (hr : r.length = 64) (hu : u < 64) : (tailB r u).length = 64 := by unfold tailB; simp; omega
set_option maxRecDepth 100000 in
theorem tailB_lt {r : List Nat} {u : Nat} (hr : ∀ x ∈ r, x < 256) : ∀ x ∈ tailB r u, x < 256 := by
  intro x hx
  unfold tailB at hx
  simp only [List.mem_append, List.mem_singleton, List.mem_replicate] at hx
  rcases hx with (hx | hx) | hx
  · exact hr x (List.mem_of_mem_take hx)
  · omega
  · omega
set_option maxRecDepth 100000 in
theorem be8_lt (n : Nat) : ∀ x ∈ be8 n, x < 256 := by
  intro x hx
  unfold be8 at hx
  simp at hx
  omega
set_option maxRecDepth 100000 in
theorem sha_short {s : St} {r m : List Nat} (h : Is s r m) (hu : m.length % 64 < 56) : sha m = (comp s ((tailB r (m.length % 64)).take 56 ++ be8 (8 * m.length))).bytes := by
  obtain ⟨q, hq⟩ : ∃ q, m.length / 64 = q := ⟨_, rfl⟩
  obtain ⟨u, hu'⟩ : ∃ u, m.length % 64 = u := ⟨_, rfl⟩
  have hl : m.length = 64 * q + u := by omega
  have hp : padded m = m ++ ([128] ++ List.replicate (55 - u) 0 ++ be8 (8 * m.length)) := by
    unfold padded zeros
    rw [hu', show (119 - u) % 64 = 55 - u by omega, List.append_assoc, List.append_assoc, List.append_assoc]
  have hlen : (padded m).length / 64 = q + 1 := by
    rw [hp]; simp [be8]; omega
  have hr := h.rest
  have hs := h.st
  have hlr := h.len
  rw [hq, hu'] at hr
  rw [hq] at hs
  unfold sha
  rw [hlen, blocks, hp, blocks_app _ _ _ (by omega), ← hs, drop_app _ _ _ (by omega), ← hr, hu']
  congr 2
  have e : (tailB r u).take 56 = r.take u ++ ([128] ++ List.replicate (55 - u) 0) := by
    unfold tailB
    rw [List.append_assoc, List.take_append, List.take_of_length_le (by simp; omega)]
    congr 1
    rw [List.length_take, Nat.min_eq_left (by omega), List.take_append, List.take_of_length_le (by simp; omega), List.take_replicate]
    congr 2
    simp; omega
  rw [e, List.take_of_length_le (by simp [be8]; omega)]
  simp only [List.append_assoc]
set_option maxRecDepth 100000 in
theorem sha_long {s : St} {r m : List Nat} (h : Is s r m) (hu : 56 ≤ m.length % 64) : sha m = (comp (comp s (tailB r (m.length % 64))) (List.replicate 56 0 ++ be8 (8 * m.length))).bytes := by
  obtain ⟨q, hq⟩ : ∃ q, m.length / 64 = q := ⟨_, rfl⟩
  obtain ⟨u, hu'⟩ : ∃ u, m.length % 64 = u := ⟨_, rfl⟩
  have hl : m.length = 64 * q + u := by omega
  have hp : padded m = m ++ (([128] ++ List.replicate (63 - u) 0) ++ (List.replicate 56 0 ++ be8 (8 * m.length))) := by
    unfold padded zeros
    rw [hu', show (119 - u) % 64 = (63 - u) + 56 by omega, ← List.replicate_append_replicate]
    simp only [List.append_assoc]
  have hlen : (padded m).length / 64 = q + 1 + 1 := by
    rw [hp]; simp [be8]; omega
  have hr := h.rest
  have hs := h.st
  have hlr := h.len
  rw [hq, hu'] at hr
  rw [hq] at hs
  have hm1 : (m ++ ([128] ++ List.replicate (63 - u) 0)).length = 64 * (q + 1) := by simp; omega
  unfold sha
  rw [hlen, blocks, hp, ← List.append_assoc, blocks_app _ _ _ (by omega), drop_app _ _ _ (by omega), List.drop_eq_nil_of_le (by omega), List.nil_append, blocks, blocks_app _ _ _ (by omega), ← hs, drop_app _ _ _ (by omega), ← hr, hu']
  have e : r.take u ++ ([128] ++ List.replicate (63 - u) 0) = tailB r u := by unfold tailB; rw [List.append_assoc]
  rw [e, List.take_of_length_le (by rw [tailB_len hlr (by omega)]; omega), List.take_of_length_le (by simp [be8])]
end Hs
end Go.Proofs.YtcdcnklfcmoiiaaDoor
