/- A slice of tries that came in. -/
import Derived.Test.YtigalbgailnicaaO
import Derived.Test.YtigalbgailnicaaP5
import Derived.ChangeSlices
namespace Go.Proofs.Ytigalbgailnicaa
set_option linter.unusedVariables false
set_option linter.unusedSimpArgs false
open Go.ChangeShapes Go.WideShapes Go.ChangeAt Go.RowKit Go.Joins Go.Deep
theorem cells58 : Try.prog.cellsOf 58 = 3 := by kernel_rfl
theorem cells5 : Try.prog.cellsOf 5 = 1 := by kernel_rfl
theorem add_off (b off n : Nat) : (Addr.mk b off none).add n = ⟨b, off + n, none⟩ := by
  unfold Addr.add
  split
  · subst_vars; rfl
  · rfl
section
variable {H : Type} {enc : TypeId × Value → H} {W : World} {base : Nat} {v : Value} {d : DataW H} {p : List MemPlace}
theorem open_tries (hv : Value.okWide Try.prog W .any base 56 v) (h : DataW.Trod enc Try.prog W 0 (fun _ => true) true 56 v d p) :
    ∃ (a : Option Addr) (cap : Nat) (ls : List (Int × Int)), v = .slice a ls.length cap ∧ TriesA W a ls ∧ ls.length ≤ 9223372036854775807 := by
  obtain ⟨a0, len, cap, rfl⟩ := okWide_slice Try.underlying56 hv
  obtain ⟨fuel, hf⟩ := h
  simp only [Value.cells] at hf
  rcases open_slice Try.underlying56 hf with ⟨hcs, hx⟩ | ⟨a, len', cap', m, n, D, Pl, hcs, hb, hl, hm, hmm, hx, hi⟩
  · simp only [List.cons.injEq, Value.slice.injEq, and_true] at hcs
    obtain ⟨rfl, rfl, rfl⟩ := hcs
    exact ⟨none, 0, [], rfl, fun k hk => absurd hk (by simp), by simp⟩
  · simp only [List.cons.injEq, Value.slice.injEq, and_true] at hcs
    obtain ⟨rfl, rfl, rfl⟩ := hcs
    have hmm' : m = cap := by simpa using hmm
    subst hmm'
    obtain ⟨f, hf⟩ := choose_lt (α := Int × Int) (n := len) (p := fun i q => W.cell? (a.add (i * 3)) = some (.int .u8 q.1) ∧ W.cell? ((a.add (i * 3)).add 1) = some (.int .u8 q.2) ∧ 0 ≤ q.1 ∧ q.1 ≤ 255 ∧ 0 ≤ q.2 ∧ q.2 ≤ 255) (fun i hlt => by
      obtain ⟨cs', h1, h2⟩ := hi i (by omega)
      rw [cells58] at h1
      obtain ⟨y0, y1, y2, n', hx', hlen, k0, k1, k2⟩ := trod_struct3 Try.underlying58 h2
      rw [cells58] at hlen
      match cs', hlen with
      | [c0, c1, c2], _ =>
        simp only [cells5, List.drop_succ_cons, List.drop_zero, List.take_succ_cons, List.take_zero] at k0 k1
        obtain ⟨x, e0, -, wx⟩ := DataW.trod_int Try.underlying5 k0
        obtain ⟨y, e1, -, wy⟩ := DataW.trod_int Try.underlying5 k1
        simp only [List.cons.injEq, and_true] at e0 e1
        subst e0 e1
        obtain ⟨_, _, hat⟩ := World.cells?_some h1
        have z0 := hat 0 (by omega)
        have z1 := hat 1 (by omega)
        have e00 : (a.add (i * 3)).add 0 = a.add (i * 3) := by simp [Addr.add]
        rw [e00] at z0
        exact ⟨(x, y), z0, z1, (bounds_u8 wx).1, (bounds_u8 wx).2, (bounds_u8 wy).1, (bounds_u8 wy).2⟩)
    refine ⟨some a, m, (List.range len).map f, by simp, ?_, by simp; unfold maxLen at hm; omega⟩
    intro k hk
    have hk' : k < len := by simpa using hk
    obtain ⟨b, off, spot⟩ := a
    have h0 := (hf 0 (by omega)).1
    have hspot : spot = none := by simpa [Addr.add] using World.cell?_spot h0
    subst hspot
    have hg : ((List.range len).map f).getD k (0, 0) = f k := by simp [List.getD, hk']
    have := hf k hk'
    rw [add_off, add_off] at this
    exact ⟨b, off, rfl, by rw [hg]; exact this⟩
end
end Go.Proofs.Ytigalbgailnicaa
