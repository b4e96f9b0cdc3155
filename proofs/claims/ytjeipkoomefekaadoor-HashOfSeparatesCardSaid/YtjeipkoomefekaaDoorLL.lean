/- What Of hashes, read back: equal inputs are of equal tags and parts. -/
import Derived.Test.YtjeipkoomefekaaDoorDD
namespace Go.Proofs.YtjeipkoomefekaaDoor
set_option linter.unusedVariables false
set_option linter.unusedSimpArgs false
open Go.RowKit
theorem encS_inj {s s' : ByteArray} (hs : s.size ≤ 400) (hs' : s'.size ≤ 400) {r r' : List Nat} (h : encS s ++ r = encS s' ++ r') : s = s' ∧ r = r' := by
  unfold encS at h
  rw [List.append_assoc, List.append_assoc] at h
  have e := congrArg (Wi.getI 1 2) h
  rw [Wi.getI_enc _ _ _ _ (by omega) (by omega), Wi.getI_enc _ _ _ _ (by omega) (by omega)] at e
  injection e with e1 _
  rw [e1] at h
  have h2 := List.append_cancel_left h
  have hl : (sb s).length = (sb s').length := by rw [sb_len, sb_len]; omega
  obtain ⟨h3, h4⟩ := List.append_inj h2 hl
  exact ⟨sb_inj h3, h4⟩
theorem flat_inj : ∀ (ss ss' : List ByteArray), (∀ s ∈ ss, s.size ≤ 400) → (∀ s ∈ ss', s.size ≤ 400) → ss.flatMap encS = ss'.flatMap encS → ss = ss'
  | [], [], _, _, _ => rfl
  | [], s :: ss, _, h2, h => by
    have := congrArg List.length h
    have l1 := (Wi.enc_len (s.size : Int) (by omega) (by have := h2 s (by simp); omega)).1
    simp only [List.flatMap_cons, List.flatMap_nil, List.length_append, List.length_nil, encS] at this
    omega
  | s :: ss, [], h1, _, h => by
    have := congrArg List.length h
    have l1 := (Wi.enc_len (s.size : Int) (by omega) (by have := h1 s (by simp); omega)).1
    simp only [List.flatMap_cons, List.flatMap_nil, List.length_append, List.length_nil, encS] at this
    omega
  | s :: ss, s' :: ss', h1, h2, h => by
    rw [List.flatMap_cons, List.flatMap_cons] at h
    obtain ⟨e1, e2⟩ := encS_inj (h1 s (by simp)) (h2 s' (by simp)) h
    rw [e1, flat_inj ss ss' (fun t ht => h1 t (by simp [ht])) (fun t ht => h2 t (by simp [ht])) e2]
theorem inL_inj {t t' : Nat} {ss ss' : List ByteArray} (h1 : ∀ s ∈ ss, s.size ≤ 400) (h2 : ∀ s ∈ ss', s.size ≤ 400) (h : inL t ss = inL t' ss') : t = t' ∧ ss = ss' := by
  unfold inL at h
  injection h with e1 e2
  exact ⟨e1, flat_inj ss ss' h1 h2 e2⟩
end Go.Proofs.YtjeipkoomefekaaDoor
