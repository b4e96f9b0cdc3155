/- The arguments of the seat's laws, opened: what shape each has. -/
import Derived.Test.YtnojnfmhinjcpaaK
import Derived.Test.YtnojnfmhinjcpaaA
import Derived.Lib.SmallJoins
namespace Go.Proofs.Ytnojnfmhinjcpaa
set_option linter.unusedVariables false
set_option linter.unusedSimpArgs false
open Go.ChangeShapes Go.WideShapes Go.ChangeAt Go.RowKit Go.Joins Go.Deep
theorem cells23 : Try.prog.cellsOf 23 = 2 := by kernel_rfl
theorem cells36 : Try.prog.cellsOf 36 = 4 := by kernel_rfl
theorem cells3 : Try.prog.cellsOf 3 = 1 := by kernel_rfl
section
variable {H : Type} {enc : TypeId × Value → H} {W : World} {base : Nat} {v : Value} {d : DataW H} {p : List MemPlace}
theorem open_num (hv : Value.okWide Try.prog W .any base 3 v) (h : DataW.Trod enc Try.prog W 0 (fun _ => true) true 3 v d p) : ∃ t : Int, v = .int .i64 t ∧ (Lit.int .i64 t).wf = true := by
  obtain ⟨t, rfl, rfl, rfl, w2⟩ := open_int Try.underlying3 hv h
  exact ⟨t, rfl, w2⟩
theorem open_per (hv : Value.okWide Try.prog W .any base 23 v) (h : DataW.Trod enc Try.prog W 0 (fun _ => true) true 23 v d p) : ∃ a b : Int, v = per a b ∧ (Lit.int .i64 a).wf = true ∧ (Lit.int .i64 b).wf = true := by
  obtain ⟨x0, x1, y0, y1, m, rfl, rfl, rfl, hy0, hy1⟩ := open_agg2 Try.underlying23 (by kernel_rfl) cells23 hv h
  obtain ⟨a, e0, rfl, wa⟩ := DataW.trod_int Try.underlying3 hy0
  obtain ⟨b, e1, rfl, wb⟩ := DataW.trod_int Try.underlying3 hy1
  simp at e0 e1
  subst e0 e1
  exact ⟨a, b, rfl, wa, wb⟩
theorem open_clk (hv : Value.okWide Try.prog W .any base 36 v) (h : DataW.Trod enc Try.prog W 0 (fun _ => true) true 36 v d p) : ∃ l lo hi dr : Int, v = clk l lo hi dr ∧ (Lit.int .i64 l).wf = true ∧ (Lit.int .i64 lo).wf = true ∧ (Lit.int .i64 hi).wf = true ∧ (Lit.int .i64 dr).wf = true := by
  obtain ⟨cs, rfl, hsz⟩ := okWide_struct Try.underlying36 hv
  obtain ⟨c0, c1, c2, c3, rfl⟩ := array4 (hsz.trans cells36)
  obtain ⟨fuel, hf⟩ := h
  obtain ⟨y0, y1, y2, n, hx, _, h0, h1, h2⟩ := trod_struct3 Try.underlying36 hf
  simp only [cells3, cells23, Value.cells, List.drop_succ_cons, List.drop_zero, List.take_succ_cons, List.take_zero] at h0 h1 h2
  obtain ⟨z0, z1, n', hx', _, k0, k1⟩ := trod_struct2 Try.underlying23 h1
  simp only [cells3, cells23, Value.cells, List.drop_succ_cons, List.drop_zero, List.take_succ_cons, List.take_zero] at k0 k1
  obtain ⟨l, e0, -, wl⟩ := DataW.trod_int Try.underlying3 h0
  obtain ⟨lo, e1, -, wlo⟩ := DataW.trod_int Try.underlying3 k0
  obtain ⟨hi, e2, -, whi⟩ := DataW.trod_int Try.underlying3 k1
  obtain ⟨dr, e3, -, wd⟩ := DataW.trod_int Try.underlying3 h2
  simp only [List.cons.injEq, and_true] at e0 e1 e2 e3
  subst e0 e1 e2 e3
  exact ⟨l, lo, hi, dr, rfl, wl, wlo, whi, wd⟩
end
end Go.Proofs.Ytnojnfmhinjcpaa
