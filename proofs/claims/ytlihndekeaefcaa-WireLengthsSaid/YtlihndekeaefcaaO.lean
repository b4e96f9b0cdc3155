/- The arguments of the seat's laws, opened. -/
import Derived.Test.YtlihndekeaefcaaFr
import Derived.Test.YtlihndekeaefcaaU
import Derived.Lib.SmallJoins
import Derived.ChangeSlices
import Derived.ChangeMaps5
import Derived.SliceStrings
import Derived.SizedLaws
namespace Go.Proofs.Ytlihndekeaefcaa
set_option linter.unusedVariables false
set_option linter.unusedSimpArgs false
open Go.ChangeShapes Go.WideShapes Go.ChangeAt Go.RowKit Go.Joins Go.Deep Go.ChangeMaps Go.ChangeShapes
theorem cells3 : Try.prog.cellsOf 3 = 1 := by kernel_rfl
theorem cells5 : Try.prog.cellsOf 5 = 1 := by kernel_rfl
theorem cells9 : Try.prog.cellsOf 9 = 1 := by kernel_rfl
section
variable {H : Type} {enc : TypeId × Value → H} {W : World} {base : Nat} {v : Value} {d : DataW H} {p : List MemPlace}
theorem open_num (hv : Value.okWide Try.prog W .any base 3 v) (h : DataW.Trod enc Try.prog W 0 (fun _ => true) true 3 v d p) : ∃ t : Int, v = .int .i64 t ∧ -9223372036854775808 ≤ t ∧ t ≤ 9223372036854775807 := by
  obtain ⟨t, rfl, rfl, rfl, w2⟩ := open_int Try.underlying3 hv h
  exact ⟨t, rfl, (bounds_i64 w2).1, (bounds_i64 w2).2⟩
theorem open_str (hv : Value.okWide Try.prog W .any base 9 v) (h : DataW.Trod enc Try.prog W 0 (fun _ => true) true 9 v d p) : ∃ s : ByteArray, v = .string s ∧ d = .lit (.string s.data.toList) ∧ s.size ≤ 9223372036854775807 := by
  obtain ⟨s, h1, h2, -, h3⟩ := open_string Try.underlying9 hv h
  exact ⟨s, h1, h2, h3⟩
/-- What a slice's reading says of its length. -/
def SliceLen (d : DataW H) (n : Nat) : Prop := n = 0 ∨ ∃ elems spare, d = .slice elems spare ∧ elems.length = n
theorem open_nums (hv : Value.okWide Try.prog W .any base 22 v) (h : DataW.Trod enc Try.prog W 0 (fun _ => true) true 22 v d p) :
    ∃ (a : Option Addr) (cap : Nat) (zs : List Int), v = .slice a zs.length cap ∧ zs.length ≤ cap ∧ IntsA W a zs ∧ zs.length ≤ 9223372036854775807 ∧ SliceLen d zs.length := by
  obtain ⟨a0, len, cap, rfl⟩ := okWide_slice Try.underlying22 hv
  obtain ⟨fuel, hf⟩ := h
  simp only [Value.cells] at hf
  rcases open_ints Try.underlying22 Try.underlying3 cells3 hf with ⟨hcs, hx⟩ | ⟨a, len', cap', zs, hcs, hb, hl, hm, hz, hx, hcell, hwz⟩
  · simp only [List.cons.injEq, Value.slice.injEq, and_true] at hcs
    obtain ⟨rfl, rfl, rfl⟩ := hcs
    exact ⟨none, 0, [], rfl, Nat.le_refl _, fun k hk => absurd hk (by simp), by simp, Or.inl rfl⟩
  · simp only [List.cons.injEq, Value.slice.injEq, and_true] at hcs
    obtain ⟨rfl, rfl, rfl⟩ := hcs
    have hz' : zs.length = cap := by simpa using hz
    have hlen : (zs.take len).length = len := by simp; omega
    refine ⟨some a, cap, zs.take len, by rw [hlen], by rw [hlen]; exact hl, ?_, by rw [hlen]; unfold maxLen at hm; omega, Or.inr ⟨_, _, (Prod.mk.inj hx).1, by simp [lits]⟩⟩
    intro k hk
    rw [hlen] at hk
    obtain ⟨b, off, rfl, hc'⟩ := ints_at hcell (by omega)
    have hg : (zs.take len).getD k 0 = zs.getD k 0 := by simp [List.getD, List.getElem?_take, hk]
    rw [hg]
    refine ⟨b, off, rfl, hc' k (by omega), ?_⟩
    apply bounds_i64
    apply hwz
    rw [List.getD_eq_getElem?_getD, List.getElem?_eq_getElem (by omega)]
    exact List.getElem_mem _
theorem open_bytes (hv : Value.okWide Try.prog W .any base 28 v) (h : DataW.Trod enc Try.prog W 0 (fun _ => true) true 28 v d p) :
    ∃ (a : Option Addr) (cap : Nat) (l : List Nat), v = .slice a l.length cap ∧ l.length ≤ cap ∧ BytesA W a l ∧ l.length ≤ 9223372036854775807 ∧ SliceLen d l.length := by
  obtain ⟨a0, len, cap, rfl⟩ := okWide_slice Try.underlying28 hv
  obtain ⟨fuel, hf⟩ := h
  simp only [Value.cells] at hf
  rcases open_ints Try.underlying28 Try.underlying5 cells5 hf with ⟨hcs, hx⟩ | ⟨a, len', cap', zs, hcs, hb, hl, hm, hz, hx, hcell, hwz⟩
  · simp only [List.cons.injEq, Value.slice.injEq, and_true] at hcs
    obtain ⟨rfl, rfl, rfl⟩ := hcs
    exact ⟨none, 0, [], rfl, Nat.le_refl _, fun k hk => absurd hk (by simp), by simp, Or.inl rfl⟩
  · simp only [List.cons.injEq, Value.slice.injEq, and_true] at hcs
    obtain ⟨rfl, rfl, rfl⟩ := hcs
    have hz' : zs.length = cap := by simpa using hz
    have hlen : ((zs.take len).map Int.toNat).length = len := by simp; omega
    refine ⟨some a, cap, (zs.take len).map Int.toNat, by rw [hlen], by rw [hlen]; exact hl, ?_, by rw [hlen]; unfold maxLen at hm; omega, Or.inr ⟨_, _, (Prod.mk.inj hx).1, by simp [lits]⟩⟩
    intro k hk
    rw [hlen] at hk
    obtain ⟨b, off, rfl, hc'⟩ := ints_at hcell (by omega)
    have hg : ((zs.take len).map Int.toNat).getD k 0 = (zs.getD k 0).toNat := by
      simp [List.getD, List.getElem?_take, hk, show k < zs.length by omega]
    have hb := bounds_u8 (hwz (zs.getD k 0) (by
      rw [List.getD_eq_getElem?_getD, List.getElem?_eq_getElem (by omega)]
      exact List.getElem_mem _))
    refine ⟨b, off, rfl, ?_, by rw [hg]; omega⟩
    rw [hg]
    unfold bv
    rw [Int.toNat_of_nonneg hb.1]
    exact hc' k (by omega)
theorem open_strs (hv : Value.okWide Try.prog W .any base 23 v) (h : DataW.Trod enc Try.prog W 0 (fun _ => true) true 23 v d p) :
    ∃ (a : Option Addr) (cap : Nat) (zs : List ByteArray), v = .slice a zs.length cap ∧ zs.length ≤ cap ∧ StrsA W a zs ∧ (zs = [] ∨ ∃ rest, d = .slice (strs zs) rest) ∧ zs.length ≤ 9223372036854775807 ∧ ∀ s ∈ zs, s.size ≤ 9223372036854775807 := by
  obtain ⟨a0, len, cap, rfl⟩ := okWide_slice Try.underlying23 hv
  obtain ⟨fuel, hf⟩ := h
  simp only [Value.cells] at hf
  rcases open_strings Try.underlying23 Try.underlying9 cells9 hf with ⟨hcs, hx⟩ | ⟨a, len', cap', zs, hcs, hb, hl, hm, hz, hx, hcell, hwz⟩
  · simp only [List.cons.injEq, Value.slice.injEq, and_true] at hcs
    obtain ⟨rfl, rfl, rfl⟩ := hcs
    exact ⟨none, 0, [], rfl, Nat.le_refl _, fun k hk => absurd hk (by simp), Or.inl rfl, by simp, fun s hs => by cases hs⟩
  · simp only [List.cons.injEq, Value.slice.injEq, and_true] at hcs
    obtain ⟨rfl, rfl, rfl⟩ := hcs
    have hz' : zs.length = cap := by simpa using hz
    have hlen : (zs.take len).length = len := by simp; omega
    refine ⟨some a, cap, zs.take len, by rw [hlen], by rw [hlen]; exact hl, ?_, Or.inr ⟨_, (Prod.mk.inj hx).1⟩, by rw [hlen]; unfold maxLen at hm; omega, fun s hs => hwz s (List.mem_of_mem_take hs)⟩
    intro k hk
    rw [hlen] at hk
    have h0 := hcell 0 (by omega)
    obtain ⟨b, off, spot⟩ := a
    have hspot : spot = none := by simpa [Addr.add] using World.cell?_spot h0
    subst hspot
    have hg : (zs.take len).getD k ByteArray.empty = zs.getD k ByteArray.empty := by simp [List.getD, List.getElem?_take, hk]
    rw [hg]
    have := hcell k (by omega)
    rw [add_off] at this
    exact ⟨b, off, rfl, this⟩
theorem cells57 : Try.prog.cellsOf 57 = 16 := by kernel_rfl
theorem open_digs (hv : Value.okWide Try.prog W .any base 24 v) (h : DataW.Trod enc Try.prog W 0 (fun _ => true) true 24 v d p) :
    ∃ (a : Option Addr) (cap : Nat) (zs : List (List Nat)), v = .slice a zs.length cap ∧ zs.length ≤ cap ∧ DigsA W a zs ∧ zs.length ≤ 9223372036854775807 ∧ SliceLen d zs.length := by
  obtain ⟨a0, len, cap, rfl⟩ := okWide_slice Try.underlying24 hv
  obtain ⟨fuel, hf⟩ := h
  simp only [Value.cells] at hf
  rcases open_slice Try.underlying24 hf with ⟨hcs, hx⟩ | ⟨a, len', cap', m, n, D, Pl, hcs, hb, hl, hm, hmm, hx, hi⟩
  · simp only [List.cons.injEq, Value.slice.injEq, and_true] at hcs
    obtain ⟨rfl, rfl, rfl⟩ := hcs
    exact ⟨none, 0, [], rfl, Nat.le_refl _, fun k hk => absurd hk (by simp), by simp, Or.inl rfl⟩
  · simp only [List.cons.injEq, Value.slice.injEq, and_true] at hcs
    obtain ⟨rfl, rfl, rfl⟩ := hcs
    have hmm' : m = cap := by simpa using hmm
    subst hmm'
    obtain ⟨f, hf⟩ := choose_lt (α := List Nat) (n := len) (p := fun i q => q.length = 16 ∧ ∀ j, j < 16 → W.cell? ((a.add (i * 16)).add j) = some (bv (q.getD j 0)) ∧ q.getD j 0 < 256) (fun i hlt => by
      obtain ⟨cs', h1, h2⟩ := hi i (by omega)
      rw [cells57] at h1
      obtain ⟨xs, m', -, -, hlen, hxs, hat⟩ := DataW.trod_array Try.underlying57 h2
      rw [cells57] at hlen
      rw [cells5] at hat
      obtain ⟨_, _, hcell⟩ := World.cells?_some h1
      obtain ⟨g, hg⟩ := choose_lt (α := Nat) (n := 16) (p := fun j y => W.cell? ((a.add (i * 16)).add j) = some (bv y) ∧ y < 256) (fun j hj => by
        have k0 := hat j hj
        rw [List.getElem?_eq_getElem (by omega)] at k0
        obtain ⟨y, e0, -, wy⟩ := DataW.trod_int Try.underlying5 k0
        have hy := bounds_u8 wy
        have c0 := hcell j (by omega)
        have e1 : cs'[j]? = some (.int .u8 y) := by
          have : ((cs'.drop (j * 1)).take 1)[0]? = some (.int .u8 y) := by rw [e0]; rfl
          simpa [List.getElem?_take, List.getElem?_drop] using this
        rw [e1] at c0
        exact ⟨y.toNat, by unfold bv; rw [Int.toNat_of_nonneg hy.1]; exact c0, by omega⟩)
      refine ⟨(List.range 16).map g, by simp, fun j hj => ?_⟩
      have e : ((List.range 16).map g).getD j 0 = g j := by simp [List.getD_eq_getElem?_getD, hj]
      rw [e]
      exact hg j hj)
    have hlen : ((List.range len).map f).length = len := by simp
    refine ⟨some a, m, (List.range len).map f, by rw [hlen], by rw [hlen]; exact hl, ?_, by rw [hlen]; unfold maxLen at hm; omega, Or.inr ⟨_, _, (Prod.mk.inj hx).1, by simp⟩⟩
    intro k hk
    rw [hlen] at hk
    have hg : ((List.range len).map f).getD k [] = f k := by simp [List.getD_eq_getElem?_getD, hk]
    rw [hg]
    obtain ⟨h16, hc⟩ := hf k hk
    obtain ⟨b, off, spot⟩ := a
    have hspot : spot = none := by
      have := ((hf 0 (by omega)).2 0 (by omega)).1
      simpa [Addr.add] using World.cell?_spot this
    subst hspot
    refine ⟨b, off, rfl, h16, fun j hj => ?_⟩
    have := hc j hj
    rw [add_off, add_off] at this
    exact this
end
end Go.Proofs.Ytlihndekeaefcaa
