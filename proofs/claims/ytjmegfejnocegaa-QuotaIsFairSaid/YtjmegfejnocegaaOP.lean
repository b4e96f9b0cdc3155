/- The arguments of the seat's laws, opened. -/
import Derived.Test.YtjmegfejnocegaaBO
import Derived.Test.YtjmegfejnocegaaU
namespace Go.Proofs.Ytjmegfejnocegaa
set_option linter.unusedVariables false
set_option linter.unusedSimpArgs false
open Go.ChangeShapes Go.WideShapes Go.ChangeAt Go.RowKit Go.Joins Go.Deep
theorem cellsS : Try.prog.cellsOf 32 = 2 := by kernel_rfl
theorem cellsA : Try.prog.cellsOf 53 = 3 := by kernel_rfl
section
variable {H : Type} {encT : TypeId × Value → H} {W : World} {base : Nat} {v : Value} {d : DataW H} {p : List MemPlace}
theorem share_cells {fuel : Nat} {cs : List Value} {y : DataW H × List MemPlace} (hc : cs.length = 2) (h : DataW.trod encT Try.prog W 0 (fun _ => true) true fuel 32 cs = some y) : ∃ x : Sh, cs = encS x ∧ True := by
  obtain ⟨xs, n, _, hx, hl, hlen, hg⟩ := DataW.trod_struct Try.underlying32 h
  match cs, hc with
  | [c0, c1], _ =>
    match xs, hlen with
    | [y0, y1], _ =>
      have g0 := hg 0 _ rfl
      have g1 := hg 1 _ rfl
      simp [cellsI] at g0 g1
      obtain ⟨a, e0, -, -⟩ := DataW.trod_int Try.underlying3 g0
      obtain ⟨b, e1, -, -⟩ := DataW.trod_int Try.underlying3 g1
      simp only [List.cons.injEq, and_true] at e0 e1
      subst e0 e1
      exact ⟨(a, b), rfl, trivial⟩
theorem account_cells {fuel : Nat} {cs : List Value} {y : DataW H × List MemPlace} (hc : cs.length = 3) (h : DataW.trod encT Try.prog W 0 (fun _ => true) true fuel 53 cs = some y) : ∃ x : Ac, cs = encA x ∧ True := by
  obtain ⟨xs, n, _, hx, hl, hlen, hg⟩ := DataW.trod_struct Try.underlying53 h
  match cs, hc with
  | [c0, c1, c2], _ =>
    match xs, hlen with
    | [y0, y1, y2], _ =>
      have g0 := hg 0 _ rfl
      have g1 := hg 1 _ rfl
      have g2 := hg 2 _ rfl
      simp [cellsI] at g0 g1 g2
      obtain ⟨a, e0, -, -⟩ := DataW.trod_int Try.underlying3 g0
      obtain ⟨b, e1, -, -⟩ := DataW.trod_int Try.underlying3 g1
      obtain ⟨c, e2, -, -⟩ := DataW.trod_int Try.underlying3 g2
      simp only [List.cons.injEq, and_true] at e0 e1 e2
      subst e0 e1 e2
      exact ⟨(a, b, c), rfl, trivial⟩
theorem open_shares (hv : Value.okWide Try.prog W .any base 22 v) (h : DataW.Trod encT Try.prog W 0 (fun _ => true) true 22 v d p) :
    ∃ (a : Option Addr) (cap : Nat) (l : List Sh), v = .slice a l.length cap ∧ ShA W a l ∧ l.length ≤ 9223372036854775807 := by
  obtain ⟨a, cap, l, e, hl, hm, -⟩ := open_rows (α := Sh) (k := 2) (enc := encS) (Q := fun _ => True) Try.underlying22 cellsS (by decide) (fun _ => rfl) (fun fuel cs y hc h => share_cells hc h) hv h
  exact ⟨a, cap, l, e, hl, hm⟩
theorem open_accounts (hv : Value.okWide Try.prog W .any base 35 v) (h : DataW.Trod encT Try.prog W 0 (fun _ => true) true 35 v d p) :
    ∃ (a : Option Addr) (cap : Nat) (l : List Ac), v = .slice a l.length cap ∧ AcA W a l ∧ l.length ≤ 9223372036854775807 := by
  obtain ⟨a, cap, l, e, hl, hm, -⟩ := open_rows (α := Ac) (k := 3) (enc := encA) (Q := fun _ => True) Try.underlying35 cellsA (by decide) (fun _ => rfl) (fun fuel cs y hc h => account_cells hc h) hv h
  exact ⟨a, cap, l, e, hl, hm⟩
theorem open_u8 (hv : Value.okWide Try.prog W .any base 5 v) (h : DataW.Trod encT Try.prog W 0 (fun _ => true) true 5 v d p) : ∃ t : Nat, v = .int .u8 t ∧ t < 256 := by
  obtain ⟨t, rfl, rfl, rfl, w2⟩ := open_int Try.underlying5 hv h
  have := bounds_u8 w2
  exact ⟨t.toNat, by rw [Int.toNat_of_nonneg this.1], by omega⟩
end
end Go.Proofs.Ytjmegfejnocegaa
