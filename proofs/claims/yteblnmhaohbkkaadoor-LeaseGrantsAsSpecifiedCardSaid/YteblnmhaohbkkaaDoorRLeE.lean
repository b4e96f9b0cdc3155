/- The arguments of the laws of chapter 30, opened: grants, keys, periods, bytes. -/
import Derived.Test.YteblnmhaohbkkaaDoorRBO
import Derived.Test.YteblnmhaohbkkaaDoorRG1
import Derived.Test.YteblnmhaohbkkaaDoorRLMs
import Derived.ChangeMaps5
namespace Go.Proofs.YteblnmhaohbkkaaDoor
set_option linter.unusedVariables false
set_option linter.unusedSimpArgs false
namespace Le
open Go.ChangeShapes Go.WideShapes Go.ChangeAt Go.RowKit Go.Joins Go.Deep Go.ChangeMaps
set_option maxRecDepth 100000
theorem cellsKey : Tryd.prog.cellsOf 26 = 5 := by kernel_rfl
theorem cellsInt : Tryd.prog.cellsOf 3 = 1 := by kernel_rfl
theorem cellsStr : Tryd.prog.cellsOf 9 = 1 := by kernel_rfl
theorem cellsGrant : Tryd.prog.cellsOf 88 = 3 := by kernel_rfl
section
variable {H : Type} {encT : TypeId × Value → H} {W : World} {base : Nat} {v : Value} {d : DataW H} {p : List MemPlace}
theorem key_cells {fuel : Nat} {cs : List Value} {y : DataW H × List MemPlace} (hc : cs.length = 5) (h : DataW.trod encT Tryd.prog W 0 (fun _ => true) true fuel 26 cs = some y) : ∃ x : Rw, cs = encR x ∧ True := by
  obtain ⟨xs, n, _, hx, hl, hlen, hg⟩ := DataW.trod_struct Tryd.underlying26 h
  match cs, hc with
  | [c0, c1, c2, c3, c4], _ =>
    match xs, hlen with
    | [y0, y1, y2, y3, y4], _ =>
      have g0 := hg 0 _ rfl
      have g1 := hg 1 _ rfl
      have g2 := hg 2 _ rfl
      have g3 := hg 3 _ rfl
      have g4 := hg 4 _ rfl
      simp [cellsInt, cellsStr] at g0 g1 g2 g3 g4
      obtain ⟨a, e0, -, -⟩ := DataW.trod_int Tryd.underlying3 g0
      obtain ⟨b, e1, -, -⟩ := DataW.trod_int Tryd.underlying3 g1
      obtain ⟨c, e2, -, -⟩ := DataW.trod_string Tryd.underlying9 g2
      obtain ⟨e, e3, -, -⟩ := DataW.trod_int Tryd.underlying3 g3
      obtain ⟨f, e4, -, -⟩ := DataW.trod_int Tryd.underlying3 g4
      simp only [List.cons.injEq, and_true] at e0 e1 e2 e3 e4
      subst e0 e1 e2 e3 e4
      exact ⟨(a, b, c, e, f), rfl, trivial⟩
theorem open_key (hv : Value.okWide Tryd.prog W .any base 26 v) (h : DataW.Trod encT Tryd.prog W 0 (fun _ => true) true 26 v d p) :
    ∃ (k1 k2 : Int) (k3 : ByteArray) (k4 k5 : Int), v = .agg #[.int .i64 k1, .int .i64 k2, .string k3, .int .i64 k4, .int .i64 k5] := by
  obtain ⟨cs, rfl, hsz⟩ := okWide_struct Tryd.underlying26 hv
  obtain ⟨fuel, hf⟩ := h
  obtain ⟨⟨k1, k2, k3, k4, k5⟩, e, -⟩ := key_cells (by simpa [Value.cells] using hsz.trans cellsKey) hf
  refine ⟨k1, k2, k3, k4, k5, ?_⟩
  have e2 : cs.toList = [.int .i64 k1, .int .i64 k2, .string k3, .int .i64 k4, .int .i64 k5] := by simpa [Value.cells, encR] using e
  rw [← Array.toArray_toList (xs := cs), e2]
/-- A slice of structs that came in within a struct, each with k cells that read as an x. -/
theorem open_rowsF {α : Type} [Inhabited α] {P : Program} {t e k : Nat} {enc : α → List Value} {Q : α → Prop} (ht : P.underlying t = some (.slice e)) (hC : P.cellsOf e = k) (hk0 : 0 < k) (hk : ∀ x, (enc x).length = k)
    (hel : ∀ fuel cs y, cs.length = k → DataW.trod encT P W 0 (fun _ => true) true fuel e cs = some y → ∃ x, cs = enc x ∧ Q x)
    {n0 : Nat} {y : DataW H × List MemPlace} (hf : DataW.trod encT P W 0 (fun _ => true) true n0 t [v] = some y) :
    ∃ (a : Option Addr) (cap : Nat) (l : List α), v = .slice a l.length cap ∧ RowsA k enc W a l ∧ l.length ≤ 9223372036854775807 ∧ ∀ x ∈ l, Q x := by
  obtain ⟨a0, len, cap, e0⟩ := slice_form ht hf
  simp only [List.cons.injEq, and_true] at e0
  subst e0
  rcases open_slice ht hf with ⟨hcs, hx⟩ | ⟨a, len', cap', m, n, D, Pl, hcs, hb, hl, hm, hmm, hx, hi⟩
  · simp only [List.cons.injEq, Value.slice.injEq, and_true] at hcs
    obtain ⟨rfl, rfl, rfl⟩ := hcs
    exact ⟨none, 0, [], rfl, RowsA.nil _ _ _ _, by simp, by simp⟩
  · simp only [List.cons.injEq, Value.slice.injEq, and_true] at hcs
    obtain ⟨rfl, rfl, rfl⟩ := hcs
    have hmm' : m = cap := by simpa using hmm
    subst hmm'
    obtain ⟨f, hf⟩ := choose_lt (α := α) (n := len) (p := fun i x => Q x ∧ ∀ j u, (enc x)[j]? = some u → W.cell? ((a.add (i * k)).add j) = some u) (fun i hlt => by
      obtain ⟨cs', h1, h2⟩ := hi i (by omega)
      rw [hC] at h1
      obtain ⟨_, hlen, hat⟩ := World.cells?_some h1
      obtain ⟨x, rfl, hq⟩ := hel n cs' _ hlen h2
      exact ⟨x, hq, fun j u hu => by
        have hj : j < k := by have := (List.getElem?_eq_some_iff.1 hu).1; rwa [hk] at this
        rw [hat j hj]; exact hu⟩)
    refine ⟨some a, m, (List.range len).map f, by simp, ?_, by simp; unfold maxLen at hm; omega, fun x hx => ?_⟩
    · intro i x hx
      have hil : i < len := by have := (List.getElem?_eq_some_iff.1 hx).1; simpa using this
      rw [List.getElem?_map, List.getElem?_range hil] at hx
      obtain rfl : f i = x := by simpa using hx
      obtain ⟨b, off, spot⟩ := a
      obtain ⟨u, hu⟩ : ∃ u, (enc (f 0))[0]? = some u := ⟨_, List.getElem?_eq_getElem (by rw [hk]; exact hk0)⟩
      have h0 := (hf 0 (by omega)).2 0 u hu
      have hspot : spot = none := by simpa [Addr.add] using World.cell?_spot h0
      subst hspot
      refine ⟨b, off, rfl, fun j u hu => ?_⟩
      have := (hf i hil).2 j u hu
      rwa [add_off, add_off] at this
    · obtain ⟨i, hi', rfl⟩ := List.mem_map.1 hx
      exact (hf i (List.mem_range.1 hi')).1
theorem open_i {n : Nat} {v : Value} {y : DataW H × List MemPlace} (hf : DataW.trod encT Tryd.prog W 0 (fun _ => true) true n 3 [v] = some y) : ∃ t : Int, v = .int .i64 t ∧ -9223372036854775808 ≤ t ∧ t ≤ 9223372036854775807 := by
  obtain ⟨t, e1, e2, w1⟩ := DataW.trod_int Tryd.underlying3 hf
  simp only [List.cons.injEq, and_true] at e1
  exact ⟨t, e1, (bounds_i64 w1).1, (bounds_i64 w1).2⟩
theorem open_period (hv : Value.okWide Tryd.prog W .any base 28 v) (h : DataW.Trod encT Tryd.prog W 0 (fun _ => true) true 28 v d p) :
    ∃ (lo hi : Int), v = .agg #[.int .i64 lo, .int .i64 hi] ∧ (-9223372036854775808 ≤ lo ∧ lo ≤ 9223372036854775807) ∧ (-9223372036854775808 ≤ hi ∧ hi ≤ 9223372036854775807) := by
  obtain ⟨v0, v1, y0, y1, n, rfl, -, -, h0, h1⟩ := open_agg2 Tryd.underlying28 (by kernel_rfl) (by kernel_rfl) hv h
  obtain ⟨lo, rfl, b0⟩ := open_i h0
  obtain ⟨hi, rfl, b1⟩ := open_i h1
  exact ⟨lo, hi, rfl, b0, b1⟩
theorem grant_cells {fuel : Nat} {cs : List Value} {y : DataW H × List MemPlace} (hc : cs.length = 3) (h : DataW.trod encT Tryd.prog W 0 (fun _ => true) true fuel 88 cs = some y) : ∃ x : Gr, cs = encG x ∧ True := by
  obtain ⟨xs, n, _, hx, hl, hlen, hg⟩ := DataW.trod_struct Tryd.underlying88 h
  match cs, hc with
  | [c0, c1, c2], _ =>
    match xs, hlen with
    | [y0, y1, y2], _ =>
      have g0 := hg 0 _ rfl
      have g1 := hg 1 _ rfl
      have g2 := hg 2 _ rfl
      simp [cellsInt] at g0 g1 g2
      obtain ⟨a, e0, -, -⟩ := DataW.trod_int Tryd.underlying3 g0
      obtain ⟨b, e1, -, -⟩ := DataW.trod_int Tryd.underlying3 g1
      obtain ⟨c, e2, -, -⟩ := DataW.trod_int Tryd.underlying3 g2
      simp only [List.cons.injEq, and_true] at e0 e1 e2
      subst e0 e1 e2
      exact ⟨(a, b, c), rfl, trivial⟩
theorem open_grants (hv : Value.okWide Tryd.prog W .any base 24 v) (h : DataW.Trod encT Tryd.prog W 0 (fun _ => true) true 24 v d p) :
    ∃ (la mo : Int) (a : Option Addr) (c : Nat) (l : List Gr), v = .agg #[.int .i64 la, .int .i64 mo, .slice a l.length c] ∧ GrA W a l ∧ l.length ≤ 9223372036854775807 ∧ (-9223372036854775808 ≤ la ∧ la ≤ 9223372036854775807) ∧ (-9223372036854775808 ≤ mo ∧ mo ≤ 9223372036854775807) := by
  obtain ⟨v0, v1, v2, y0, y1, y2, n, rfl, -, -, h0, h1, h2⟩ := open_agg3 Tryd.underlying24 (by kernel_rfl) (by kernel_rfl) hv h
  obtain ⟨la, rfl, b0⟩ := open_i h0
  obtain ⟨mo, rfl, b1⟩ := open_i h1
  obtain ⟨a, c, l, rfl, hl, hm, -⟩ := open_rowsF (α := Gr) (k := 3) (enc := encG) (Q := fun _ => True) Tryd.underlying22 cellsGrant (by decide) encG_len (fun fuel cs y hc h => grant_cells hc h) h2
  exact ⟨la, mo, a, c, l, rfl, hl, hm, b0, b1⟩
end
end Le
end Go.Proofs.YteblnmhaohbkkaaDoor
