/- The arguments of the laws of chapter 4, opened: rings, keys, texts, periods. -/
import Derived.Test.YtcdcnklfcmoiiaaDoorBO
import Derived.Test.YtcdcnklfcmoiiaaDoorM
import Derived.ChangeMaps5
namespace Go.Proofs.YtcdcnklfcmoiiaaDoor
set_option linter.unusedVariables false
set_option linter.unusedSimpArgs false
open Go.ChangeShapes Go.WideShapes Go.ChangeAt Go.RowKit Go.Joins Go.Deep Go.ChangeMaps
set_option maxRecDepth 100000
theorem cellsKey : Tryd.prog.cellsOf 24 = 5 := by kernel_rfl
theorem cellsInt : Tryd.prog.cellsOf 3 = 1 := by kernel_rfl
theorem cellsStr : Tryd.prog.cellsOf 9 = 1 := by kernel_rfl
section
variable {H : Type} {encT : TypeId × Value → H} {W : World} {base : Nat} {v : Value} {d : DataW H} {p : List MemPlace}
theorem key_cells {fuel : Nat} {cs : List Value} {y : DataW H × List MemPlace} (hc : cs.length = 5) (h : DataW.trod encT Tryd.prog W 0 (fun _ => true) true fuel 24 cs = some y) : ∃ x : Rw, cs = encR x ∧ True := by
  obtain ⟨xs, n, _, hx, hl, hlen, hg⟩ := DataW.trod_struct Tryd.underlying24 h
  match cs, hc with
  | [c0, c1, c2, c3, c4], _ =>
    match xs, hlen with
    | [y0, y1, y2, y3, y4], _ =>
      have g0 := hg 0 _ rfl
      have g1 := hg 1 _ rfl
      have g2 := hg 2 _ rfl
      have g3 := hg 3 _ rfl
      have g4 := hg 4 _ rfl
      simp [cellsInt, cellsStr] at g0 g1 g2 g3 g4
      obtain ⟨a, e0, -, -⟩ := DataW.trod_int Tryd.underlying3 g0
      obtain ⟨b, e1, -, -⟩ := DataW.trod_int Tryd.underlying3 g1
      obtain ⟨c, e2, -, -⟩ := DataW.trod_string Tryd.underlying9 g2
      obtain ⟨e, e3, -, -⟩ := DataW.trod_int Tryd.underlying3 g3
      obtain ⟨f, e4, -, -⟩ := DataW.trod_int Tryd.underlying3 g4
      simp only [List.cons.injEq, and_true] at e0 e1 e2 e3 e4
      subst e0 e1 e2 e3 e4
      exact ⟨(a, b, c, e, f), rfl, trivial⟩
theorem open_ring (hv : Value.okWide Tryd.prog W .any base 22 v) (h : DataW.Trod encT Tryd.prog W 0 (fun _ => true) true 22 v d p) :
    ∃ (a : Option Addr) (c : Nat) (l : List Rw), v = .slice a l.length c ∧ RwA W a l ∧ l.length ≤ 9223372036854775807 := by
  obtain ⟨a, c, l, e, hl, hm, -⟩ := open_rows (α := Rw) (k := 5) (enc := encR) (Q := fun _ => True) Tryd.underlying22 cellsKey (by decide) encR_len (fun fuel cs y hc h => key_cells hc h) hv h
  exact ⟨a, c, l, e, hl, hm⟩
theorem open_key (hv : Value.okWide Tryd.prog W .any base 24 v) (h : DataW.Trod encT Tryd.prog W 0 (fun _ => true) true 24 v d p) :
    ∃ (k1 k2 : Int) (k3 : ByteArray) (k4 k5 : Int), v = .agg #[.int .i64 k1, .int .i64 k2, .string k3, .int .i64 k4, .int .i64 k5] := by
  obtain ⟨cs, rfl, hsz⟩ := okWide_struct Tryd.underlying24 hv
  obtain ⟨fuel, hf⟩ := h
  obtain ⟨⟨k1, k2, k3, k4, k5⟩, e, -⟩ := key_cells (by simpa [Value.cells] using hsz.trans cellsKey) hf
  refine ⟨k1, k2, k3, k4, k5, ?_⟩
  have e2 : cs.toList = [.int .i64 k1, .int .i64 k2, .string k3, .int .i64 k4, .int .i64 k5] := by simpa [Value.cells, encR] using e
  rw [← Array.toArray_toList (xs := cs), e2]
theorem open_str (hv : Value.okWide Tryd.prog W .any base 9 v) (h : DataW.Trod encT Tryd.prog W 0 (fun _ => true) true 9 v d p) : ∃ s : ByteArray, v = .string s ∧ s.size ≤ 9223372036854775807 := by
  obtain ⟨s, h1, h2, -, h3⟩ := open_string Tryd.underlying9 hv h
  exact ⟨s, h1, h3⟩
theorem open_i {n : Nat} {v : Value} {y : DataW H × List MemPlace} (hf : DataW.trod encT Tryd.prog W 0 (fun _ => true) true n 3 [v] = some y) : ∃ t : Int, v = .int .i64 t ∧ -9223372036854775808 ≤ t ∧ t ≤ 9223372036854775807 := by
  obtain ⟨t, e1, e2, w1⟩ := DataW.trod_int Tryd.underlying3 hf
  simp only [List.cons.injEq, and_true] at e1
  exact ⟨t, e1, (bounds_i64 w1).1, (bounds_i64 w1).2⟩
theorem open_period (hv : Value.okWide Tryd.prog W .any base 26 v) (h : DataW.Trod encT Tryd.prog W 0 (fun _ => true) true 26 v d p) :
    ∃ (lo hi : Int), v = .agg #[.int .i64 lo, .int .i64 hi] ∧ (-9223372036854775808 ≤ lo ∧ lo ≤ 9223372036854775807) ∧ (-9223372036854775808 ≤ hi ∧ hi ≤ 9223372036854775807) := by
  obtain ⟨v0, v1, y0, y1, n, rfl, -, -, h0, h1⟩ := open_agg2 Tryd.underlying26 (by kernel_rfl) (by kernel_rfl) hv h
  obtain ⟨lo, rfl, b0⟩ := open_i h0
  obtain ⟨hi, rfl, b1⟩ := open_i h1
  exact ⟨lo, hi, rfl, b0, b1⟩
end
end Go.Proofs.YtcdcnklfcmoiiaaDoor
