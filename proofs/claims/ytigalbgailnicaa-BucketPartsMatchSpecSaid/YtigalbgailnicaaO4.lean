/- A slice of buckets that came in. -/
import Derived.Test.YtigalbgailnicaaO8
namespace Go.Proofs.Ytigalbgailnicaa
set_option linter.unusedVariables false
set_option linter.unusedSimpArgs false
open Go.ChangeShapes Go.WideShapes Go.ChangeAt Go.RowKit Go.Joins Go.Deep
instance : Inhabited Bk := ⟨Bk.zero⟩
section
variable {H : Type} {enc : TypeId × Value → H} {W : World} {base : Nat} {v : Value} {d : DataW H} {p : List MemPlace}
theorem open_bkts (hv : Value.okWide Try.prog W .any base 46 v) (h : DataW.Trod enc Try.prog W 0 (fun _ => true) true 46 v d p) :
    ∃ (a : Option Addr) (cap : Nat) (bs : List Bk), v = .slice a bs.length cap ∧ BktsA W a bs ∧ bs.length ≤ 9223372036854775807 := by
  obtain ⟨a0, len, cap, rfl⟩ := okWide_slice Try.underlying46 hv
  obtain ⟨fuel, hf⟩ := h
  simp only [Value.cells] at hf
  rcases open_slice Try.underlying46 hf with ⟨hcs, hx⟩ | ⟨a, len', cap', m, n, D, Pl, hcs, hb, hl, hm, hmm, hx, hi⟩
  · simp only [List.cons.injEq, Value.slice.injEq, and_true] at hcs
    obtain ⟨rfl, rfl, rfl⟩ := hcs
    exact ⟨none, 0, [], rfl, fun k hk => absurd hk (by simp), by simp⟩
  · simp only [List.cons.injEq, Value.slice.injEq, and_true] at hcs
    obtain ⟨rfl, rfl, rfl⟩ := hcs
    have hmm' : m = cap := by simpa using hmm
    subst hmm'
    obtain ⟨f, hf⟩ := choose_lt (α := Bk) (n := len) (p := fun i q => W.cell? (a.add (i * 5)) = some (.int .i64 q.c) ∧ W.cell? ((a.add (i * 5)).add 1) = some (.int .i64 q.n) ∧ W.cell? ((a.add (i * 5)).add 2) = some (.int .i64 q.d) ∧ W.cell? ((a.add (i * 5)).add 3) = some (.int .i64 q.l) ∧ W.cell? ((a.add (i * 5)).add 4) = some (.int .i64 q.a)) (fun i hlt => by
      obtain ⟨cs', h1, h2⟩ := hi i (by omega)
      rw [cells23] at h1
      obtain ⟨hlen, _, hat⟩ := World.cells?_some h1
      match cs', hlen with
      | [c0, c1, c2, c3, c4], _ =>
        obtain ⟨x0, x1, x2, x3, x4, rfl, rfl, rfl, rfl, rfl⟩ := bkt_cells h2
        have z0 := hat 0 (by omega)
        have z1 := hat 1 (by omega)
        have z2 := hat 2 (by omega)
        have z3 := hat 3 (by omega)
        have z4 := hat 4 (by omega)
        have e00 : (a.add (i * 5)).add 0 = a.add (i * 5) := by simp [Addr.add]
        rw [e00] at z0
        exact ⟨⟨x0, x1, x2, x3, x4⟩, z0, z1, z2, z3, z4⟩)
    refine ⟨some a, m, (List.range len).map f, by simp, ?_, by simp; unfold maxLen at hm; omega⟩
    intro k hk
    have hk' : k < len := by simpa using hk
    obtain ⟨b, off, spot⟩ := a
    have h0 := (hf 0 (by omega)).1
    have hspot : spot = none := by simpa [Addr.add] using World.cell?_spot h0
    subst hspot
    have hg : ((List.range len).map f).getD k Bk.zero = f k := by simp [List.getD, hk']
    have := hf k hk'
    rw [add_off, add_off, add_off, add_off, add_off] at this
    exact ⟨b, off, rfl, by rw [hg]; exact this⟩
end
end Go.Proofs.Ytigalbgailnicaa
