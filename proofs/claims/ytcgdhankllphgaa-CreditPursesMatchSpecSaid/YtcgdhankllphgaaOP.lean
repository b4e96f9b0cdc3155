/- The arguments of the seat's laws, opened: banks, wallets, periods. -/
import Derived.Test.YtcgdhankllphgaaBO
import Derived.Test.YtcgdhankllphgaaM
namespace Go.Proofs.Ytcgdhankllphgaa
set_option linter.unusedVariables false
set_option linter.unusedSimpArgs false
open Go.ChangeShapes Go.WideShapes Go.ChangeAt Go.RowKit Go.Joins Go.Deep
set_option maxRecDepth 100000
theorem cellsRow : Try.prog.cellsOf 72 = 4 := by kernel_rfl
theorem cellsCoin : Try.prog.cellsOf 89 = 4 := by kernel_rfl
section
variable {H : Type} {encT : TypeId × Value → H} {W : World} {base : Nat} {v : Value} {d : DataW H} {p : List MemPlace}
theorem rowc_cells {fuel : Nat} {cs : List Value} {y : DataW H × List MemPlace} (hc : cs.length = 4) (h : DataW.trod encT Try.prog W 0 (fun _ => true) true fuel 72 cs = some y) : ∃ x : Rw, cs = encR x ∧ True := by
  obtain ⟨xs, n, _, hx, hl, hlen, hg⟩ := DataW.trod_struct Try.underlying72 h
  match cs, hc with
  | [c0, c1, c2, c3], _ =>
    match xs, hlen with
    | [y0, y1, y2, y3], _ =>
      have g0 := hg 0 _ rfl
      have g1 := hg 1 _ rfl
      have g2 := hg 2 _ rfl
      have g3 := hg 3 _ rfl
      simp [cellsI] at g0 g1 g2 g3
      obtain ⟨a, e0, -, -⟩ := DataW.trod_int Try.underlying3 g0
      obtain ⟨b, e1, -, -⟩ := DataW.trod_int Try.underlying3 g1
      obtain ⟨c, e2, -, -⟩ := DataW.trod_int Try.underlying3 g2
      obtain ⟨e, e3, -, -⟩ := DataW.trod_int Try.underlying3 g3
      simp only [List.cons.injEq, and_true] at e0 e1 e2 e3
      subst e0 e1 e2 e3
      exact ⟨(a, b, c, e), rfl, trivial⟩
theorem coin_cells {fuel : Nat} {cs : List Value} {y : DataW H × List MemPlace} (hc : cs.length = 4) (h : DataW.trod encT Try.prog W 0 (fun _ => true) true fuel 89 cs = some y) : ∃ x : Rw, cs = encR x ∧ True := by
  obtain ⟨xs, n, _, hx, hl, hlen, hg⟩ := DataW.trod_struct Try.underlying89 h
  match cs, hc with
  | [c0, c1, c2, c3], _ =>
    match xs, hlen with
    | [y0, y1, y2, y3], _ =>
      have g0 := hg 0 _ rfl
      have g1 := hg 1 _ rfl
      have g2 := hg 2 _ rfl
      have g3 := hg 3 _ rfl
      simp [cellsI] at g0 g1 g2 g3
      obtain ⟨a, e0, -, -⟩ := DataW.trod_int Try.underlying3 g0
      obtain ⟨b, e1, -, -⟩ := DataW.trod_int Try.underlying3 g1
      obtain ⟨c, e2, -, -⟩ := DataW.trod_int Try.underlying3 g2
      obtain ⟨e, e3, -, -⟩ := DataW.trod_int Try.underlying3 g3
      simp only [List.cons.injEq, and_true] at e0 e1 e2 e3
      subst e0 e1 e2 e3
      exact ⟨(a, b, c, e), rfl, trivial⟩
/-- A slice of structs that came in within a struct, each with k cells that read as an x. -/
theorem open_rowsF {α : Type} [Inhabited α] {P : Program} {t e k : Nat} {enc : α → List Value} {Q : α → Prop} (ht : P.underlying t = some (.slice e)) (hC : P.cellsOf e = k) (hk0 : 0 < k) (hk : ∀ x, (enc x).length = k)
    (hel : ∀ fuel cs y, cs.length = k → DataW.trod encT P W 0 (fun _ => true) true fuel e cs = some y → ∃ x, cs = enc x ∧ Q x)
    {n0 : Nat} {y : DataW H × List MemPlace} (hf : DataW.trod encT P W 0 (fun _ => true) true n0 t [v] = some y) :
    ∃ (a : Option Addr) (cap : Nat) (l : List α), v = .slice a l.length cap ∧ RowsA k enc W a l ∧ l.length ≤ 9223372036854775807 ∧ ∀ x ∈ l, Q x := by
  obtain ⟨a0, len, cap, e0⟩ := slice_form ht hf
  simp only [List.cons.injEq, and_true] at e0
  subst e0
  rcases open_slice ht hf with ⟨hcs, hx⟩ | ⟨a, len', cap', m, n, D, Pl, hcs, hb, hl, hm, hmm, hx, hi⟩
  · simp only [List.cons.injEq, Value.slice.injEq, and_true] at hcs
    obtain ⟨rfl, rfl, rfl⟩ := hcs
    exact ⟨none, 0, [], rfl, RowsA.nil _ _ _ _, by simp, by simp⟩
  · simp only [List.cons.injEq, Value.slice.injEq, and_true] at hcs
    obtain ⟨rfl, rfl, rfl⟩ := hcs
    have hmm' : m = cap := by simpa using hmm
    subst hmm'
    obtain ⟨f, hf⟩ := choose_lt (α := α) (n := len) (p := fun i x => Q x ∧ ∀ j u, (enc x)[j]? = some u → W.cell? ((a.add (i * k)).add j) = some u) (fun i hlt => by
      obtain ⟨cs', h1, h2⟩ := hi i (by omega)
      rw [hC] at h1
      obtain ⟨_, hlen, hat⟩ := World.cells?_some h1
      obtain ⟨x, rfl, hq⟩ := hel n cs' _ hlen h2
      exact ⟨x, hq, fun j u hu => by
        have hj : j < k := by have := (List.getElem?_eq_some_iff.1 hu).1; rwa [hk] at this
        rw [hat j hj]; exact hu⟩)
    refine ⟨some a, m, (List.range len).map f, by simp, ?_, by simp; unfold maxLen at hm; omega, fun x hx => ?_⟩
    · intro i x hx
      have hil : i < len := by have := (List.getElem?_eq_some_iff.1 hx).1; simpa using this
      rw [List.getElem?_map, List.getElem?_range hil] at hx
      obtain rfl : f i = x := by simpa using hx
      obtain ⟨b, off, spot⟩ := a
      obtain ⟨u, hu⟩ : ∃ u, (enc (f 0))[0]? = some u := ⟨_, List.getElem?_eq_getElem (by rw [hk]; exact hk0)⟩
      have h0 := (hf 0 (by omega)).2 0 u hu
      have hspot : spot = none := by simpa [Addr.add] using World.cell?_spot h0
      subst hspot
      refine ⟨b, off, rfl, fun j u hu => ?_⟩
      have := (hf i hil).2 j u hu
      rwa [add_off, add_off] at this
    · obtain ⟨i, hi', rfl⟩ := List.mem_map.1 hx
      exact (hf i (List.mem_range.1 hi')).1
theorem open_i {n : Nat} {v : Value} {y : DataW H × List MemPlace} (hf : DataW.trod encT Try.prog W 0 (fun _ => true) true n 3 [v] = some y) : ∃ t : Int, v = .int .i64 t ∧ -9223372036854775808 ≤ t ∧ t ≤ 9223372036854775807 := by
  obtain ⟨t, e1, e2, w1⟩ := DataW.trod_int Try.underlying3 hf
  simp only [List.cons.injEq, and_true] at e1
  exact ⟨t, e1, (bounds_i64 w1).1, (bounds_i64 w1).2⟩
theorem open_bank (hv : Value.okWide Try.prog W .any base 24 v) (h : DataW.Trod encT Try.prog W 0 (fun _ => true) true 24 v d p) :
    ∃ (cap len : Int) (a : Option Addr) (c : Nat) (l : List Rw), v = .agg #[.int .i64 cap, .int .i64 len, .slice a l.length c] ∧ RwA W a l ∧ l.length ≤ 9223372036854775807 ∧ (-9223372036854775808 ≤ cap ∧ cap ≤ 9223372036854775807) ∧ (-9223372036854775808 ≤ len ∧ len ≤ 9223372036854775807) := by
  obtain ⟨v0, v1, v2, y0, y1, y2, n, rfl, -, -, h0, h1, h2⟩ := open_agg3 Try.underlying24 (by kernel_rfl) (by kernel_rfl) hv h
  obtain ⟨cap, rfl, b0⟩ := open_i h0
  obtain ⟨len, rfl, b1⟩ := open_i h1
  obtain ⟨a, c, l, rfl, hl, hm, -⟩ := open_rowsF (α := Rw) (k := 4) (enc := encR) (Q := fun _ => True) Try.underlying22 cellsRow (by decide) encR_len (fun fuel cs y hc h => rowc_cells hc h) h2
  exact ⟨cap, len, a, c, l, rfl, hl, hm, b0, b1⟩
theorem open_wallet (hv : Value.okWide Try.prog W .any base 45 v) (h : DataW.Trod encT Try.prog W 0 (fun _ => true) true 45 v d p) :
    ∃ (len : Int) (a : Option Addr) (c : Nat) (l : List Rw), v = .agg #[.int .i64 len, .slice a l.length c] ∧ RwA W a l ∧ l.length ≤ 9223372036854775807 ∧ (-9223372036854775808 ≤ len ∧ len ≤ 9223372036854775807) := by
  obtain ⟨v0, v1, y0, y1, n, rfl, -, -, h0, h1⟩ := open_agg2 Try.underlying45 (by kernel_rfl) (by kernel_rfl) hv h
  obtain ⟨len, rfl, b0⟩ := open_i h0
  obtain ⟨a, c, l, rfl, hl, hm, -⟩ := open_rowsF (α := Rw) (k := 4) (enc := encR) (Q := fun _ => True) Try.underlying43 cellsCoin (by decide) encR_len (fun fuel cs y hc h => coin_cells hc h) h1
  exact ⟨len, a, c, l, rfl, hl, hm, b0⟩
theorem open_period (hv : Value.okWide Try.prog W .any base 26 v) (h : DataW.Trod encT Try.prog W 0 (fun _ => true) true 26 v d p) :
    ∃ (lo hi : Int), v = .agg #[.int .i64 lo, .int .i64 hi] ∧ (-9223372036854775808 ≤ lo ∧ lo ≤ 9223372036854775807) ∧ (-9223372036854775808 ≤ hi ∧ hi ≤ 9223372036854775807) := by
  obtain ⟨v0, v1, y0, y1, n, rfl, -, -, h0, h1⟩ := open_agg2 Try.underlying26 (by kernel_rfl) (by kernel_rfl) hv h
  obtain ⟨lo, rfl, b0⟩ := open_i h0
  obtain ⟨hi, rfl, b1⟩ := open_i h1
  exact ⟨lo, hi, rfl, b0, b1⟩
end
end Go.Proofs.Ytcgdhankllphgaa
