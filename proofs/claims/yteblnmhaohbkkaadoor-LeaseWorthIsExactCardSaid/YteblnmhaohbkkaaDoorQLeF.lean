/- What a site knows and a clock that came in, opened. -/
import Derived.Test.YteblnmhaohbkkaaDoorQLeE
import Derived.Test.YteblnmhaohbkkaaDoorQLeX
import Derived.ChangeArms
namespace Go.Proofs.YteblnmhaohbkkaaDoor
set_option linter.unusedVariables false
set_option linter.unusedSimpArgs false
namespace Le
open Go.ChangeShapes Go.WideShapes Go.ChangeAt Go.RowKit Go.Joins Go.Deep Go.ChangeMaps
set_option maxRecDepth 100000
theorem cellsPer : Tryd.prog.cellsOf 28 = 2 := by kernel_rfl
theorem cellsSeal : Tryd.prog.cellsOf 36 = 16 := by kernel_rfl
theorem cellsByte : Tryd.prog.cellsOf 5 = 1 := by kernel_rfl
theorem cellsLease : Tryd.prog.cellsOf 38 = 20 := by kernel_rfl
theorem cellsHeld : Tryd.prog.cellsOf 67 = 22 := by kernel_rfl
theorem cellsClock : Tryd.prog.cellsOf 80 = 4 := by kernel_rfl
theorem seg_of {cs S : List Value} {o n k : Nat} (h : (cs.drop o).take n = S) (hk : o + n = k) : cs.drop o = S ++ cs.drop k := by
  subst hk
  rw [← h, ← List.drop_drop, List.take_append_drop]
section
variable {H : Type} {enc : TypeId × Value → H} {W : World} {base : Nat} {v : Value} {d : DataW H} {p : List MemPlace}
theorem int_cells {fuel : Nat} {cs : List Value} {y : DataW H × List MemPlace} (h : DataW.trod enc Tryd.prog W 0 (fun _ => true) true fuel 3 cs = some y) : ∃ n : Int, cs = [.int .i64 n] ∧ i64Ok n := by
  obtain ⟨n, e, -, w⟩ := DataW.trod_int Tryd.underlying3 h
  exact ⟨n, e, bounds_i64 w⟩
theorem bytes_cells {t fuel : Nat} {cs : List Value} {y : DataW H × List MemPlace} (ht : Tryd.prog.underlying t = some (.array 16 5)) (hc : cs.length = 16) (h : DataW.trod enc Tryd.prog W 0 (fun _ => true) true fuel t cs = some y) :
    ∃ S : List Nat, cs = S.map Hs.bv ∧ S.length = 16 ∧ ∀ x ∈ S, x < 256 := by
  obtain ⟨xs, m, -, -, -, hl, hx⟩ := DataW.trod_array ht h
  have g : ∀ i, i < 16 → ∃ n : Nat, cs[i]? = some (Hs.bv n) ∧ n < 256 := fun i hi => by
    have h0 := hx i hi
    rw [List.getElem?_eq_getElem (by omega)] at h0
    obtain ⟨n0, e0, -, w0⟩ := DataW.trod_int Tryd.underlying5 h0
    rw [cellsByte, Nat.mul_one] at e0
    have e1 : cs[i]? = some (Value.int .u8 n0) := by have := congrArg (·[0]?) e0; simpa [List.getElem?_take, List.getElem?_drop] using this
    have b0 := bounds_u8 w0
    refine ⟨n0.toNat, ?_, by omega⟩
    rw [e1]
    unfold Hs.bv
    rw [Int.toNat_of_nonneg b0.1]
  obtain ⟨f, hf⟩ := choose_lt (α := Nat) g
  refine ⟨(List.range 16).map f, List.ext_getElem? fun i => ?_, by simp, fun x hx => ?_⟩
  · by_cases hi : i < 16
    · rw [(hf i hi).1]
      simp [hi]
    · rw [List.getElem?_eq_none (by omega), List.getElem?_eq_none (by simp; omega)]
  · obtain ⟨i, hi, rfl⟩ := List.mem_map.1 hx
    exact (hf i (List.mem_range.1 hi)).2
theorem per_cells {fuel : Nat} {cs : List Value} {y : DataW H × List MemPlace} (h : DataW.trod enc Tryd.prog W 0 (fun _ => true) true fuel 28 cs = some y) : ∃ lo hi : Int, cs = [.int .i64 lo, .int .i64 hi] ∧ i64Ok lo ∧ i64Ok hi := by
  obtain ⟨xs, n, _, -, hl, hlen, hg⟩ := DataW.trod_struct Tryd.underlying28 h
  rw [cellsPer] at hl
  match cs, hl with
  | [c0, c1], _ =>
    match xs, hlen with
    | [y0, y1], _ =>
      have g0 := hg 0 _ rfl
      have g1 := hg 1 _ rfl
      simp [cellsInt] at g0 g1
      obtain ⟨a, e0, o0⟩ := int_cells g0
      obtain ⟨b, e1, o1⟩ := int_cells g1
      simp only [List.cons.injEq, and_true] at e0 e1
      subst e0 e1
      exact ⟨a, b, rfl, o0, o1⟩
theorem lease_trod {fuel : Nat} {cs : List Value} {y : DataW H × List MemPlace} (hf : DataW.trod enc Tryd.prog W 0 (fun _ => true) true fuel 38 cs = some y) : ∃ (st eo un re : Int) (S : List Nat), cs = leaseL st eo un re S ∧ S.length = 16 ∧ ∀ x ∈ S, x < 256 := by
  obtain ⟨xs, n, _, -, hl, hlen, hg⟩ := DataW.trod_struct Tryd.underlying38 hf
  rw [cellsLease] at hl
  have ex : ∀ i, i < 5 → ∃ y, xs[i]? = some y := fun i hi => ⟨_, List.getElem?_eq_getElem (by rw [hlen]; exact hi)⟩
  obtain ⟨y0, e0⟩ := ex 0 (by decide)
  have g0 : DataW.trod enc Tryd.prog W 0 (fun _ => true) true n 3 ((cs.drop 0).take (Tryd.prog.cellsOf 3)) = xs[0]? := hg 0 _ rfl
  rw [cellsInt, e0] at g0
  obtain ⟨st, s0, o0⟩ := int_cells g0
  have t0 := seg_of s0 (k := 1) rfl
  obtain ⟨y1, e1⟩ := ex 1 (by decide)
  have g1 : DataW.trod enc Tryd.prog W 0 (fun _ => true) true n 3 ((cs.drop 1).take (Tryd.prog.cellsOf 3)) = xs[1]? := hg 1 _ rfl
  rw [cellsInt, e1] at g1
  obtain ⟨eo, s1, o1⟩ := int_cells g1
  have t1 := seg_of s1 (k := 2) rfl
  obtain ⟨y2, e2⟩ := ex 2 (by decide)
  have g2 : DataW.trod enc Tryd.prog W 0 (fun _ => true) true n 3 ((cs.drop 2).take (Tryd.prog.cellsOf 3)) = xs[2]? := hg 2 _ rfl
  rw [cellsInt, e2] at g2
  obtain ⟨un, s2, o2⟩ := int_cells g2
  have t2 := seg_of s2 (k := 3) rfl
  obtain ⟨y3, e3⟩ := ex 3 (by decide)
  have g3 : DataW.trod enc Tryd.prog W 0 (fun _ => true) true n 3 ((cs.drop 3).take (Tryd.prog.cellsOf 3)) = xs[3]? := hg 3 _ rfl
  rw [cellsInt, e3] at g3
  obtain ⟨re, s3, o3⟩ := int_cells g3
  have t3 := seg_of s3 (k := 4) rfl
  obtain ⟨y4, e4⟩ := ex 4 (by decide)
  have g4 : DataW.trod enc Tryd.prog W 0 (fun _ => true) true n 36 ((cs.drop 4).take (Tryd.prog.cellsOf 36)) = xs[4]? := hg 4 _ rfl
  rw [cellsSeal, e4] at g4
  obtain ⟨S, s4, hS, hS2⟩ := bytes_cells Tryd.underlying36 (by rw [List.length_take, List.length_drop, hl]; decide) g4
  have t4 := seg_of s4 (k := 20) rfl
  have tz : cs.drop 20 = [] := List.drop_eq_nil_of_le (by rw [hl]; exact Nat.le_refl _)
  have ee : cs = leaseL st eo un re S := by
    have z : cs = cs.drop 0 := rfl
    rw [z, t0, t1, t2, t3, t4, tz]
    simp [leaseL]
  exact ⟨st, eo, un, re, S, ee, hS, hS2⟩
theorem open_held (hv : Value.okWide Tryd.prog W .any base 67 v) (h : DataW.Trod enc Tryd.prog W 0 (fun _ => true) true 67 v d p) : ∃ (st he ls le lu lr : Int) (S : List Nat), v = .agg (heldC st he ls le lu lr S) ∧ S.length = 16 := by
  obtain ⟨cs0, rfl, hsz⟩ := okWide_struct Tryd.underlying67 hv
  obtain ⟨fuel, hf⟩ := h
  simp only [Value.cells] at hf
  obtain ⟨cs, hcs⟩ : ∃ l, cs0.toList = l := ⟨_, rfl⟩
  rw [hcs] at hf
  obtain ⟨xs, n, _, -, hl, hlen, hg⟩ := DataW.trod_struct Tryd.underlying67 hf
  rw [cellsHeld] at hl
  have ex : ∀ i, i < 3 → ∃ y, xs[i]? = some y := fun i hi => ⟨_, List.getElem?_eq_getElem (by rw [hlen]; exact hi)⟩
  obtain ⟨y0, e0⟩ := ex 0 (by decide)
  have g0 : DataW.trod enc Tryd.prog W 0 (fun _ => true) true n 3 ((cs.drop 0).take (Tryd.prog.cellsOf 3)) = xs[0]? := hg 0 _ rfl
  rw [cellsInt, e0] at g0
  obtain ⟨st, s0, o0⟩ := int_cells g0
  have t0 := seg_of s0 (k := 1) rfl
  obtain ⟨y1, e1⟩ := ex 1 (by decide)
  have g1 : DataW.trod enc Tryd.prog W 0 (fun _ => true) true n 3 ((cs.drop 1).take (Tryd.prog.cellsOf 3)) = xs[1]? := hg 1 _ rfl
  rw [cellsInt, e1] at g1
  obtain ⟨he, s1, o1⟩ := int_cells g1
  have t1 := seg_of s1 (k := 2) rfl
  obtain ⟨y2, e2⟩ := ex 2 (by decide)
  have g2 : DataW.trod enc Tryd.prog W 0 (fun _ => true) true n 38 ((cs.drop 2).take (Tryd.prog.cellsOf 38)) = xs[2]? := hg 2 _ rfl
  rw [cellsLease, e2] at g2
  obtain ⟨ls, le, lu, lr, S, s2, hS, hS2⟩ := lease_trod g2
  have t2 := seg_of s2 (k := 22) rfl
  have tz : cs.drop 22 = [] := List.drop_eq_nil_of_le (by rw [hl]; exact Nat.le_refl _)
  have ee : heldC st he ls le lu lr S = cs.toArray := by
    have z : cs = cs.drop 0 := rfl
    conv => rhs; rw [z, t0, t1, t2, tz]
    simp [heldC, heldL]
  exact ⟨st, he, ls, le, lu, lr, S, by rw [ee, ← hcs], hS⟩
theorem open_clock (hv : Value.okWide Tryd.prog W .any base 80 v) (h : DataW.Trod enc Tryd.prog W 0 (fun _ => true) true 80 v d p) : ∃ (cl lo hi cd : Int), v = .agg #[.int .i64 cl, .int .i64 lo, .int .i64 hi, .int .i64 cd] := by
  obtain ⟨cs0, rfl, hsz⟩ := okWide_struct Tryd.underlying80 hv
  obtain ⟨fuel, hf⟩ := h
  simp only [Value.cells] at hf
  obtain ⟨cs, hcs⟩ : ∃ l, cs0.toList = l := ⟨_, rfl⟩
  rw [hcs] at hf
  obtain ⟨xs, n, _, -, hl, hlen, hg⟩ := DataW.trod_struct Tryd.underlying80 hf
  rw [cellsClock] at hl
  have ex : ∀ i, i < 3 → ∃ y, xs[i]? = some y := fun i hi => ⟨_, List.getElem?_eq_getElem (by rw [hlen]; exact hi)⟩
  obtain ⟨y0, e0⟩ := ex 0 (by decide)
  have g0 : DataW.trod enc Tryd.prog W 0 (fun _ => true) true n 3 ((cs.drop 0).take (Tryd.prog.cellsOf 3)) = xs[0]? := hg 0 _ rfl
  rw [cellsInt, e0] at g0
  obtain ⟨cl, s0, o0⟩ := int_cells g0
  have t0 := seg_of s0 (k := 1) rfl
  obtain ⟨y1, e1⟩ := ex 1 (by decide)
  have g1 : DataW.trod enc Tryd.prog W 0 (fun _ => true) true n 28 ((cs.drop 1).take (Tryd.prog.cellsOf 28)) = xs[1]? := hg 1 _ rfl
  rw [cellsPer, e1] at g1
  obtain ⟨lo, hi, s1, olo, ohi⟩ := per_cells g1
  have t1 := seg_of s1 (k := 3) rfl
  obtain ⟨y2, e2⟩ := ex 2 (by decide)
  have g2 : DataW.trod enc Tryd.prog W 0 (fun _ => true) true n 3 ((cs.drop 3).take (Tryd.prog.cellsOf 3)) = xs[2]? := hg 2 _ rfl
  rw [cellsInt, e2] at g2
  obtain ⟨cd, s2, o2⟩ := int_cells g2
  have t2 := seg_of s2 (k := 4) rfl
  have tz : cs.drop 4 = [] := List.drop_eq_nil_of_le (by rw [hl]; exact Nat.le_refl _)
  have ee : (#[.int .i64 cl, .int .i64 lo, .int .i64 hi, .int .i64 cd] : Array Value) = cs.toArray := by
    have z : cs = cs.drop 0 := rfl
    conv => rhs; rw [z, t0, t1, t2, tz]
    rfl
  exact ⟨cl, lo, hi, cd, by rw [ee, ← hcs]⟩
end
end Le
end Go.Proofs.YteblnmhaohbkkaaDoor
