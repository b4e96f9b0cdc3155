/- Appending to a slice without room; contracts of few and consumed; arguments' cells. -/
import Derived.Test.YtlihndekeaefcaaS
import Derived.Deep.Upon
namespace Go.Proofs.Ytlihndekeaefcaa
set_option linter.unusedVariables false
set_option linter.unusedSimpArgs false
open Go.RowKit
theorem src_bytes {W : World} {b : Option Addr} {cb : Nat} {m : List Nat} (h : BytesA W b m) : Src Try.prog 1 28 (.slice b m.length cb) m.length (m.map bv) W := by
  cases b with
  | none =>
    obtain rfl : m = [] := by
      cases m with
      | nil => rfl
      | cons x m => obtain ⟨_, _, e, _⟩ := h 0 (by simp); cases e
    exact Src.ofNil W Try.underlying28 cb
  | some p =>
    refine Src.ofSlice W Try.underlying28 p m.length cb _ (by simp) (fun j u hu => ?_) (fun u hu => by obtain ⟨_, _, rfl⟩ := List.mem_map.1 hu; rfl)
    have hj : j < m.length := by
      rcases Nat.lt_or_ge j m.length with h' | h'
      · exact h'
      · rw [List.getElem?_eq_none (by rw [List.length_map]; exact h')] at hu
        cases hu
    obtain ⟨b', off, e, h1, -⟩ := h j hj
    obtain rfl := Option.some.inj e
    rw [map_at bv m 0 j hj] at hu
    obtain rfl := Option.some.inj hu
    rw [add_off]
    exact h1
theorem BytesA.append {W : World} {l m : List Nat} {N : Nat} {rest : Array Value} {w : World} (hW : W = w.alloc (.cells ((l.map bv ++ m.map bv).toArray ++ rest) 5)) (hN : N = w.heap.size) (hl : ∀ x ∈ l, x < 256) (hm : ∀ x ∈ m, x < 256) : BytesA W (some ⟨N, 0, none⟩) (l ++ m) := by
  subst hW hN
  intro k hk
  refine ⟨_, 0, rfl, ?_, ?_⟩
  · rw [Nat.zero_add, World.cell?_alloc_new]
    have h1 : ((l.map bv ++ m.map bv).toArray ++ rest)[k]? = some (bv ((l ++ m).getD k 0)) := by
      rw [← List.map_append, Array.getElem?_append_left (by simpa using hk)]
      have := map_at bv (l ++ m) 0 k hk
      simpa using this
    exact h1
  · rw [getD_at 0 hk]
    have := List.getElem_mem hk
    rcases List.mem_append.1 this with h | h
    · exact hl _ h
    · exact hm _ h
/-- Bytes are appended to a slice without room. -/
theorem run_app_full (a b : Option Addr) (cb : Nat) (l m : List Nat) (w : World) (ty : TypeId) (ha : BytesA w a l) (hb : BytesA w b m) (hl : l.length ≤ 1000000) (hm : m.length ≤ 1000000) :
    ∃ a' c' w', (Builtin.append_ #[28, 28] ty #[.slice a l.length l.length, .slice b m.length cb]).run Try.prog w = .ok (.slice a' (l ++ m).length c') w' ∧ (l ++ m).length ≤ c' ∧ BytesA w' a' (l ++ m) ∧ Below w.heap.size w w' := by
  obtain ⟨i0, hi, hz0, hz1, hz2⟩ := info_parts infoB
  have hs := src_bytes (cb := cb) hb
  by_cases h0 : m = []
  · subst h0
    refine ⟨a, l.length, w, ?_, by simp, by simpa using ha, Below.refl _ _⟩
    rw [List.append_nil]
    exact run_append_nothing (P := Try.prog) w 28 28 ty 5 i0 Try.underlying28 hi a l.length l.length (Nat.le_refl _) _ (by rw [hz1]; exact hs)
  · have hpos : 0 < m.length := List.length_pos_iff.2 h0
    have hold : (Builtin.firstCells i0.size l.length (.slice a l.length l.length)).run Try.prog w.drew = .ok (l.map bv).toArray w.drew := by
      rw [hz1]
      exact (src_bytes (cb := l.length) ha).cellsD
    have g1 := grownCap_ge w (l.length + m.length) l.length 5
    have hr := run_append_grow_src (P := Try.prog) w 28 28 ty 5 i0 (.int .u8 0) Try.underlying28 hi hz0 a l.length l.length (l.map bv) hold _ m.length (m.map bv) (by rw [hz1]; exact hs) (by omega) (by omega) (growslice_fits (by omega) (by rw [hz2]; omega))
    refine ⟨_, _, _, by rw [List.length_append]; exact hr, by rw [List.length_append]; exact g1, BytesA.append (w := w.drew) rfl rfl ha.lt hb.lt, ?_⟩
    exact ((Below.refl _ _).drew).alloc (Nat.le_refl _) _
theorem wpAppC {ops : Array Oper} {rest : List Oper} {o : Oper} {A : Act} {Q : Exit → Act → World → Prop} {w : World} (hgd : o.guard = none) (s x : Operand)
    (ho : o.op = .call { callee := .builtin .append, args := #[s, x], argTypes := #[28, 28] }) (a b : Option Addr) (cb : Nat) (l m : List Nat) (n k : Nat) (hn : l.length = n) (hk : m.length = k) (hs : A.eval s = .slice a n n) (hx : A.eval x = .slice b k cb)
    (ha : BytesA w a l) (hb : BytesA w b m) (hl : l.length ≤ 1000000) (hm : m.length ≤ 1000000)
    (h : ∀ a' c' w', (l ++ m).length ≤ c' → BytesA w' a' (l ++ m) → Below w.heap.size w w' → wpList Try.prog ops Q rest (A.put o.dst (.slice a' (l ++ m).length c')) w') : wpList Try.prog ops Q (o :: rest) A w := by
  subst hn hk
  refine wpList_plain hgd fun K hK => ?_
  obtain ⟨a', c', w', hr, h1, h2, h3⟩ := run_app_full a b cb l m w o.type ha hb hl hm
  unfold Oper.wp execOp
  simp only [ho, resolve, invoke, builtin, Sem.run_bind, Sem.run_pure, Result.andThen_ok, List.map_toArray, List.map_cons, List.map_nil, hs, hx, hr]
  exact hK _ _ (h a' c' w' h1 h2 h3)
end Go.Proofs.Ytlihndekeaefcaa
