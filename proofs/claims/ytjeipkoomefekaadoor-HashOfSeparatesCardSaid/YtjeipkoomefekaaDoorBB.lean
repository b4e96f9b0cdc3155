/- A stream of bytes, its cells opaque. -/
import Derived.Test.YtjeipkoomefekaaDoorAA
import Derived.Test.YtjeipkoomefekaaDoorT
namespace Go.Proofs.YtjeipkoomefekaaDoor
set_option linter.unusedVariables false
set_option linter.unusedSimpArgs false
open Go.RowKit
/-- The cells of a stream that holds m. -/
def InS (X : Array Value) (m : List Nat) : Prop := ∃ s r, Is s r m ∧ X = svA s r m.length
theorem InS.size {X : Array Value} {m : List Nat} (h : InS X m) : X.size = 73 := by obtain ⟨s, r, h, rfl⟩ := h; exact svA_size _ _ _ h.len
theorem InS.one {X : Array Value} {m : List Nat} (h : InS X m) : X.all (·.oneCell') = true := by obtain ⟨s, r, h, rfl⟩ := h; exact svA_one _ _ _
theorem InS.info {X : Array Value} {m : List Nat} (h : InS X m) : (Tryd.prog.info? 53).map (·.size) = some X.size := by rw [h.size]; kernel_rfl
theorem InS.old {X : Array Value} {m : List Nat} (h : InS X m) : (svA st00 z64 0).size = X.size := by rw [h.size]; rfl
theorem inBegin_any (w : World) : Calls Tryd.prog 31 #[] w fun e w' => (∃ X, e = .returned (.agg X) ∧ InS X []) ∧ Below w.heap.size w w' :=
  (begin_any w).mono fun e w' ⟨h1, h2⟩ => ⟨⟨_, h1, _, _, is_zero, rfl⟩, h2⟩
theorem inAdd_any (X : Array Value) (m : List Nat) (t : ByteArray) (w : World) (h : InS X m) (hN : m.length + t.size < 1152921504606846976) (hla : LaidC w) :
    Calls Tryd.prog 32 #[.agg X, .string t] w fun e w' => (∃ Y, e = .returned (.agg Y) ∧ InS Y (m ++ sb t)) ∧ Below w.heap.size w w' := by
  obtain ⟨s, r, hI, rfl⟩ := h
  exact (add_any s r m (sb t) t w hI (by rw [sb_len]; exact hN) rfl hla).mono fun e w' ⟨s', r', h1, h2, h3⟩ => ⟨⟨_, h2, s', r', h1, rfl⟩, h3⟩
theorem inSum_any (X : Array Value) (m : List Nat) (w : World) (h : InS X m) (hN : m.length < 1152921504606846976) (hla : LaidC w) :
    Calls Tryd.prog 33 #[.agg X] w fun e w' => e = .returned (.agg (bvs (sha m))) ∧ Below w.heap.size w w' := by
  obtain ⟨s, r, hI, rfl⟩ := h
  exact sum_any s r m w hI hN hla
theorem str_conv2 (m : List Nat) (hm : ∀ x ∈ m, x < 256) : ∃ (G : World → Nat) (O : World → Obj), ∀ W, (convert 9 22 (.string (strB m))).run Tryd.prog W = .ok (.slice (some ⟨W.heap.size, 0, none⟩) m.length (G W)) (W.drew.alloc (O W)) ∧ BytesA (W.drew.alloc (O W)) (some ⟨W.heap.size, 0, none⟩) m ∧ m.length ≤ G W := by
  obtain ⟨G, O, h⟩ := str_conv m hm
  refine ⟨G, O, fun W => ⟨(h W).1, (h W).2, ?_⟩⟩
  have h1 := (h W).1
  rw [run_bytes_of_string W 9 22 5 (strB m) Tryd.underlying9 Tryd.underlying22 Tryd.underlying5] at h1
  injection h1 with h1 _
  injection h1 with _ _ h1
  rw [← h1]
  have := grownCap_ge W (strB m).size 0 5
  rw [strB_size] at this ⊢
  exact this
section
variable {P : Program} {ops : Array Oper} {rest : List Oper} {op : Oper} {a : Act} {w : World}
theorem wpStill_load_all {Q : Act → Prop} (hgd : op.guard = none) (ty : TypeId) (x : Operand) (ho : op.op = .load ty x)
    (g : Nat) (hx : a.eval x = .pointer (some ⟨g, 0, none⟩)) (t : TypeId) (cs : Array Value) (fs : Array Field) (hg : Blk w g t cs)
    (hu : P.underlying ty = some (.struct fs)) (hi : (P.info? ty).map (·.size) = some cs.size)
    (h : wpStill P ops w Q rest (a.put op.dst (.agg cs))) : wpStill P ops w Q (op :: rest) a := by
  have hw : Region.wanted op (yielded ops a.tmps) = true := by simp [Region.wanted, hgd]
  unfold wpStill
  rw [if_pos hw]
  unfold Oper.still execOp
  simp only [ho, hx, Instr.loadAt, Instr.sureAddr, Sem.run_bind, Sem.run_pure, Result.andThen_ok, run_loadVar_row w g t ty cs (0, 0) (.struct fs) hg hu rfl hi]
  exact ⟨rfl, h⟩
theorem wpList_load_gs {Q : Exit → Act → World → Prop} (hw : Region.wanted op (yielded ops a.tmps) = true) (ty : TypeId) (x : Operand) (ho : op.op = .load ty x)
    (g : Nat) (hx : a.eval x = .pointer (some ⟨g, 0, none⟩)) (t : TypeId) (cs : Array Value) (fs : Array Field) (hg : Blk w g t cs)
    (hu : P.underlying ty = some (.struct fs)) (hi : (P.info? ty).map (·.size) = some cs.size)
    (h : wpList P ops Q rest (a.put op.dst (.agg cs)) w) : wpList P ops Q (op :: rest) a w := by
  unfold wpList
  rw [if_pos hw]
  exact Or.inl (wp_load_row ty x ho g hx t cs (0, 0) (.struct fs) hg hu rfl hi h)
end
end Go.Proofs.YtjeipkoomefekaaDoor
