/- Ported from another seat (wip/hash/W.src, by wip/port.py): contracts that this chapter calls. -/
import Derived.Test.YtcdcnklfcmoiiaaDoorHT
import Derived.Lib.SlBytesConst
namespace Go.Proofs.YtcdcnklfcmoiiaaDoor
set_option linter.unusedVariables false
set_option linter.unusedSimpArgs false
namespace Hs
open Go.RowKit
set_option maxRecDepth 100000 in
theorem src_bytes {W : World} {a : Option Addr} {l : List Nat} {cap : Nat} (h : BytesA W a l) : Src Tryd.prog 1 102 (.slice a l.length cap) l.length (l.map bv) W := by
  cases l with
  | nil =>
    cases a with
    | none => exact Src.ofNil W Tryd.underlying102 cap
    | some p => exact Src.ofSlice W Tryd.underlying102 p 0 cap [] (by simp) (fun j u hu => by simp at hu) (fun u hu => by cases hu)
  | cons x l =>
    obtain ⟨b, off, rfl, -, -⟩ := h 0 (by simp)
    refine Src.ofSlice W Tryd.underlying102 ⟨b, off, none⟩ (x :: l).length cap _ (by simp) (fun j u hu => ?_) (fun u hu => by obtain ⟨_, _, rfl⟩ := List.mem_map.1 hu; rfl)
    have hj : j < (x :: l).length := by
      rcases Nat.lt_or_ge j (x :: l).length with hj | hj
      · exact hj
      · rw [List.getElem?_eq_none (by simpa using hj)] at hu; cases hu
    obtain ⟨b', off', e, h1, -⟩ := h j hj
    injection e with e
    injection e with e1 e2
    subst e1; subst e2
    rw [show (⟨b, off, none⟩ : Addr).add j = ⟨b, off + j, none⟩ from Addr.add_mid b off j, h1]
    rw [List.getElem?_map, List.getElem?_eq_getElem hj] at hu
    rw [List.getD_eq_getElem?_getD, List.getElem?_eq_getElem hj]
    exact hu
set_option maxRecDepth 100000 in
theorem BytesA.lt {W : World} {a : Option Addr} {l : List Nat} (h : BytesA W a l) : ∀ x ∈ l, x < 256 := fun x hx => by
  obtain ⟨k, hk, rfl⟩ := List.getElem_of_mem hx
  obtain ⟨_, _, _, _, h2⟩ := h k hk
  rwa [List.getD_eq_getElem?_getD, List.getElem?_eq_getElem hk] at h2
end Hs
end Go.Proofs.YtcdcnklfcmoiiaaDoor
