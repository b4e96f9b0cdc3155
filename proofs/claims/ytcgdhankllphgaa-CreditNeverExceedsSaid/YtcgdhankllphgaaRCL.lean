import Derived.Test.YtcgdhankllphgaaRBC
import Derived.Test.YtcgdhankllphgaaRM2
import Derived.Laws.AppendOwn
import Derived.Laws.CopyRow
namespace Go.Proofs.Ytcgdhankllphgaa
set_option linter.unusedVariables false
set_option linter.unusedSimpArgs false
set_option linter.unusedSectionVars false
open Go.RowKit
section
variable {P : Program}
theorem run_clear_rowK (w : World) (dT elem : TypeId) (k : Nat) (zv : Value) (g o n c : Nat) (cur : Array Value) (t : TypeId)
    (hu : P.underlying dT = some (.slice elem)) (hz : ∀ w, (zeroValue elem).run P w = .ok zv w) (hk : zv.cells.size = k) (h1 : ∀ v ∈ zv.cells, v.oneCell' = true)
    (hg : w.heap[g]? = some (.cells cur t (0, 0))) (hfit : o + n * k ≤ cur.size) (hn : 0 < n) (hk0 : 0 < k) :
    ∃ vs : List Value, vs.length = n * k ∧ ∀ ty, (Builtin.clear_ #[dT] ty #[.slice (some ⟨g, o, none⟩) n c]).run P w = .ok (.tuple #[]) (w.setRow g (splice cur.toList o vs).toArray) := by
  have hl : (Builtin.zeroCells zv.cells n).toList.length = n * k := by rw [Array.length_toList, size_zeroCells, hk]
  have hm : ∀ v ∈ (Builtin.zeroCells zv.cells n).toList, v.oneCell' = true := by
    intro v hv
    rw [Array.mem_toList_iff] at hv
    unfold Builtin.zeroCells at hv
    obtain ⟨i, -, rfl⟩ := Array.mem_map.1 hv
    have hlt : i % zv.cells.size < zv.cells.size := Nat.mod_lt _ (by rw [hk]; exact hk0)
    rw [getElem!_pos zv.cells _ hlt]
    exact h1 _ (Array.getElem_mem hlt)
  have hst := run_storeCells_at P g o t (Builtin.zeroCells zv.cells n).toList 0 cur w hg (by rw [hl]; simpa using hfit) hm
  refine ⟨_, hl, fun ty => ?_⟩
  obtain ⟨m, rfl⟩ : ∃ m, n = m + 1 := ⟨n - 1, by omega⟩
  simp [Builtin.clear_, run_underlying hu, hz, hst, splice]
theorem wpList_clear_run {w : World} {ops : Array Oper} {rest : List Oper} {o : Oper} {a : Act} {Q : Exit → Act → World → Prop} (hgd : o.guard = none) (d : Operand) (dT : TypeId)
    (ho : o.op = .call { callee := .builtin .clear, args := #[d], argTypes := #[dT] }) (v : Value) (w' : World) (hd : a.eval d = v) (hdst : o.dst = none)
    (hr : (Builtin.clear_ #[dT] o.type #[v]).run P w = .ok (.tuple #[]) w') (h : wpList P ops Q rest a w') : wpList P ops Q (o :: rest) a w := by
  refine wpList_plain hgd fun K hK => ?_
  unfold Oper.wp execOp
  simp only [ho, resolve, invoke, builtin, Sem.run_bind, Sem.run_pure, Result.andThen_ok, List.map_toArray, List.map_cons, List.map_nil, hd, hr]
  have e : a.put o.dst (.tuple #[]) = a := by rw [hdst]; rfl
  have := hK _ _ h
  rw [← e] at this
  exact this
end
theorem rows_of_take {W : World} {g : Nat} {t : TypeId} {cur : Array Value} {l : List Rw} (hg : W.heap[g]? = some (.cells cur t (0, 0))) (ht : cur.toList.take (l.length * 4) = l.flatMap encR) : RwA W (some ⟨g, 0, none⟩) l := by
  intro i x hx
  refine ⟨g, 0, rfl, fun j u hu => ?_⟩
  have hj : j < 4 := by have := (List.getElem?_eq_some_iff.1 hu).1; rwa [encR_len] at this
  have hi : i < l.length := (List.getElem?_eq_some_iff.1 hx).1
  have e : (l.flatMap encR)[i * 4 + j]? = some u := by rw [flat_at encR_len l i j hj, hx]; exact hu
  rw [← ht, List.getElem?_take] at e
  rw [if_pos (by omega)] at e
  have e2 : cur[i * 4 + j]? = some u := by rw [← Array.getElem?_toList]; exact e
  simp only [World.cell?, hg, Nat.zero_add]
  exact e2
theorem getDs (l : List Rw) (i : Nat) (x : Rw) (h : i < l.length) : (l.set i x).getD i r0 = x := by rw [List.getD_eq_getElem?_getD, List.getElem?_set_self h]; rfl
theorem take_splice {α : Type} (X V : List α) (p q : Nat) (h : q ≤ p) (hp : p ≤ X.length) : (splice X p V).take q = X.take q := by
  unfold splice
  rw [List.take_append_of_le_length (by rw [List.length_take]; omega), List.take_take, Nat.min_eq_left h]
theorem filter_step {α : Type} (p : α → Bool) (l : List α) (j : Nat) (d : α) (hj : j < l.length) : (l.take (j + 1)).filter p = (l.take j).filter p ++ (if p (l.getD j d) = true then [l.getD j d] else []) := by
  rw [List.take_succ_eq_append_getElem hj, List.filter_append]
  congr 1
  have e : l.getD j d = l[j] := by rw [List.getD_eq_getElem?_getD, List.getElem?_eq_getElem hj]; rfl
  rw [e]
  by_cases h : p l[j] = true
  · rw [if_pos h]; simp [h]
  · rw [if_neg h]; simp [h]
theorem filter_none {α : Type} (p : α → Bool) (l : List α) (j : Nat) (d : α) (hj : j ≤ l.length) (h : ∀ k, k < j → p (l.getD k d) = true) : (l.take j).filter p = l.take j := by
  rw [List.filter_eq_self]
  intro x hx
  obtain ⟨k, hk, rfl⟩ := List.mem_iff_getElem.1 hx
  have hk2 : k < j := by rw [List.length_take] at hk; omega
  have := h k hk2
  rw [List.getD_eq_getElem?_getD, List.getElem?_eq_getElem (by omega)] at this
  simpa using this
theorem keep_step {α : Type} (m : List α) (i : Nat) (x : α) (hi : i < m.length) : (m.set i x).take (i + 1) = m.take i ++ [x] := by
  rw [List.take_set, List.take_succ_eq_append_getElem hi, List.set_append_right _ _ (by rw [List.length_take]; omega)]
  rw [List.length_take, Nat.min_eq_left (by omega), Nat.sub_self]
  rfl
theorem drop_set_lt {α : Type} (m : List α) (i j : Nat) (x : α) (h : i < j) : (m.set i x).drop j = m.drop j := by
  apply List.ext_getElem?
  intro k
  rw [List.getElem?_drop, List.getElem?_drop, List.getElem?_set_ne (by omega)]
theorem getD_drop {α : Type} (m l : List α) (j : Nat) (d : α) (h : m.drop j = l.drop j) : m.getD j d = l.getD j d := by
  rw [List.getD_eq_getElem?_getD, List.getD_eq_getElem?_getD]
  have e : (m.drop j)[0]? = (l.drop j)[0]? := by rw [h]
  rw [List.getElem?_drop, List.getElem?_drop] at e
  rw [show j + 0 = j by omega] at e
  rw [e]
theorem drop_next {α : Type} (m l : List α) (j : Nat) (h : m.drop j = l.drop j) : m.drop (j + 1) = l.drop (j + 1) := by
  rw [← List.drop_drop, ← List.drop_drop, h]
end Go.Proofs.Ytcgdhankllphgaa
