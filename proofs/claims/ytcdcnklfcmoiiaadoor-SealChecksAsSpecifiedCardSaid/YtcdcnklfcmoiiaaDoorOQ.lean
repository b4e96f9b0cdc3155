/- More arguments of the laws of chapter 4, opened: seals, lists of texts. -/
import Derived.Test.YtcdcnklfcmoiiaaDoorOP
import Derived.Test.YtcdcnklfcmoiiaaDoorZA
import Derived.OpenShut
namespace Go.Proofs.YtcdcnklfcmoiiaaDoor
set_option linter.unusedVariables false
set_option linter.unusedSimpArgs false
open Go.ChangeShapes Go.WideShapes Go.ChangeAt Go.RowKit Go.Joins Go.Deep Go.ChangeMaps
set_option maxRecDepth 100000
theorem cellsByte : Tryd.prog.cellsOf 5 = 1 := by kernel_rfl
theorem cellsSeal : Tryd.prog.cellsOf 50 = 16 := by kernel_rfl
section
variable {H : Type} {enc : TypeId × Value → H} {W : World} {base : Nat} {v : Value} {d : DataW H} {p : List MemPlace}
theorem seal_cells {fuel : Nat} {cs : List Value} {y : DataW H × List MemPlace} (hc : cs.length = 16) (h : DataW.trod enc Tryd.prog W 0 (fun _ => true) true fuel 50 cs = some y) :
    ∃ S : List Nat, cs = S.map Hs.bv ∧ S.length = 16 ∧ ∀ x ∈ S, x < 256 := by
  obtain ⟨xs, m, -, -, -, hl, hx⟩ := DataW.trod_array Tryd.underlying50 h
  have g : ∀ i, i < 16 → ∃ n : Nat, cs[i]? = some (Hs.bv n) ∧ n < 256 := fun i hi => by
    have h0 := hx i hi
    rw [List.getElem?_eq_getElem (by omega)] at h0
    obtain ⟨n0, e0, -, w0⟩ := DataW.trod_int Tryd.underlying5 h0
    rw [cellsByte, Nat.mul_one] at e0
    have e1 : cs[i]? = some (Value.int .u8 n0) := by have := congrArg (·[0]?) e0; simpa [List.getElem?_take, List.getElem?_drop] using this
    have b0 := bounds_u8 w0
    refine ⟨n0.toNat, ?_, by omega⟩
    rw [e1]
    unfold Hs.bv
    rw [Int.toNat_of_nonneg b0.1]
  obtain ⟨f, hf⟩ := choose_lt (α := Nat) g
  refine ⟨(List.range 16).map f, List.ext_getElem? fun i => ?_, by simp, fun x hx => ?_⟩
  · by_cases hi : i < 16
    · rw [(hf i hi).1]
      simp [hi]
    · rw [List.getElem?_eq_none (by omega), List.getElem?_eq_none (by simp; omega)]
  · obtain ⟨i, hi, rfl⟩ := List.mem_map.1 hx
    exact (hf i (List.mem_range.1 hi)).2
theorem open_seal (hv : Value.okWide Tryd.prog W .any base 50 v) (h : DataW.Trod enc Tryd.prog W 0 (fun _ => true) true 50 v d p) :
    ∃ S : List Nat, v = .agg (Hs.bvs S) ∧ S.length = 16 := by
  simp only [Value.okWide, Tryd.underlying50] at hv
  obtain ⟨cs, rfl, hsz, -⟩ := hv
  obtain ⟨fuel, hf⟩ := h
  obtain ⟨S, e, hl, -⟩ := seal_cells (by simpa [Value.cells] using hsz.trans cellsSeal) hf
  refine ⟨S, ?_, hl⟩
  have e2 : cs.toList = S.map Hs.bv := by simpa [Value.cells] using e
  rw [← Array.toArray_toList (xs := cs), e2]
  rfl
theorem open_parts (hv : Value.okWide Tryd.prog W .any base 48 v) (h : DataW.Trod enc Tryd.prog W 0 (fun _ => true) true 48 v d p) :
    ∃ (a : Option Addr) (c : Nat) (l : List ByteArray), v = .slice a l.length c ∧ StR W a l ∧ l.length ≤ 9223372036854775807 := by
  obtain ⟨a, c, l, e, hl, hm, -⟩ := open_rows (α := ByteArray) (k := 1) (enc := encT) (Q := fun _ => True) Tryd.underlying48 cellsStr (by decide) encT_len (fun fuel cs y hc h => by
    obtain ⟨s, e2, -, -⟩ := DataW.trod_string Tryd.underlying9 h
    exact ⟨s, e2, trivial⟩) hv h
  exact ⟨a, c, l, e, hl, hm⟩
end
end Go.Proofs.YtcdcnklfcmoiiaaDoor
