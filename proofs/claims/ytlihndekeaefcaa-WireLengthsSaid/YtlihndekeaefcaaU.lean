/- What the laws over strings and digests need. -/
import Derived.Test.YtlihndekeaefcaaQ
namespace Go.Proofs.Ytlihndekeaefcaa
set_option linter.unusedVariables false
set_option linter.unusedSimpArgs false
open Go.RowKit
theorem same_yes (a b : Option Addr) (ca cb : Nat) (l : List Nat) (w : World) (h1 : BytesA w a l) (h2 : BytesA w b l) (hl : l.length ≤ 1000000) :
    Calls Try.prog 13 #[.slice a l.length ca, .slice b l.length cb] w fun e w' => e = .returned (.bool true) ∧ w = w' := by
  have := same_any a b ca cb l l w h1 h2 (by omega) (by omega)
  rwa [decide_eq_true rfl] at this
theorem strs_len : ∀ l : List ByteArray, letters l ≤ 2000 → (l.flatMap fun s => encS (sb s)).length ≤ 10 * l.length + letters l
  | [], _ => by simp
  | s :: l, h => by
    simp only [letters] at h
    have := strs_len l (by omega)
    have h2 := encS_len (sb s) (by rw [sb_len]; omega)
    rw [sb_len] at h2
    simp only [List.flatMap_cons, List.length_append, List.length_cons, letters]
    omega
theorem encL_strs (l : List ByteArray) (h : l.length + letters l ≤ 2000) : (encL (fun s => encS (sb s)) l).length ≤ 30010 := by
  have := strs_len l (by omega)
  have := enc_cnt l.length (by omega)
  unfold encL
  rw [List.length_append]
  omega
theorem letters_mem : ∀ (l : List ByteArray) (s : ByteArray), s ∈ l → s.size ≤ letters l
  | [], s, h => by cases h
  | t :: l, s, h => by
    simp only [letters]
    rcases List.mem_cons.1 h with rfl | k
    · omega
    · have := letters_mem l s k
      omega
theorem DigsA.all {W : World} {a : Option Addr} {l : List (List Nat)} (h : DigsA W a l) : ∀ x ∈ l, x.length = 16 ∧ ∀ y ∈ x, y < 256 := by
  intro x hx
  obtain ⟨k, hk, rfl⟩ := List.getElem_of_mem hx
  obtain ⟨b, off, _, h16, h2⟩ := h k hk
  rw [getD_at [] hk] at h16 h2
  refine ⟨h16, fun y hy => ?_⟩
  obtain ⟨j, hj, rfl⟩ := List.getElem_of_mem hy
  have := (h2 j (by omega)).2
  rwa [getD_at 0 hj] at this
theorem encL_digs (l : List (List Nat)) (h : ∀ x ∈ l, x.length = 16 ∧ ∀ y ∈ x, y < 256) (hm : l.length ≤ 2000) : (encL id l).length ≤ 32010 := by
  have := flatMap_le (f := id) (s := 16) l (fun x hx => by show x.length ≤ 16; rw [(h x hx).1]; exact Nat.le_refl _)
  have := enc_cnt l.length (by omega)
  unfold encL
  rw [List.length_append]
  omega
end Go.Proofs.Ytlihndekeaefcaa
