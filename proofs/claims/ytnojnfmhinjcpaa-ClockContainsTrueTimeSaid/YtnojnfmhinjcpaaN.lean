/- Contracts for every case at once: the results as plain functions that the walk does not open. -/
import Derived.Test.YtnojnfmhinjcpaaW
import Derived.Test.YtnojnfmhinjcpaaG
namespace Go.Proofs.Ytnojnfmhinjcpaa
set_option linter.unusedVariables false
set_option linter.unusedSimpArgs false
open Go.RowKit Go.Sort
theorem below_of_grow {W W' : World} {d : Nat} {os : Array Obj} (h : W' = grow (redrawn W d) os) : Below W.heap.size W W' := h ▸ below_regrown W d os
theorem chk_iff {l lo hi d : Int} : chkB l lo hi d = true ↔ OkClk l lo hi d := by unfold chkB OkClk; exact decide_eq_true_iff
def rdE (l x : Int) : Int := if x < 0 ∨ 2199023255552 < x then 1 else if x < l then 9 else 0
def rdA (l lo d x : Int) : Int := if x < l ∨ 2199023255552 < x then 0 else rdLo lo d (x - l)
def rdB (l hi d x : Int) : Int := if x < l ∨ 2199023255552 < x then 0 else rdHi hi d (x - l)
theorem rd_in {l lo hi d x : Int} (h : OkClk l lo hi d) (k : l ≤ x) (k2 : x ≤ 2199023255552) : rdE l x = 0 ∧ rdA l lo d x = rdLo lo d (x - l) ∧ rdB l hi d x = rdHi hi d (x - l) := by
  have := h.1
  unfold rdE rdA rdB
  refine ⟨?_, ?_, ?_⟩
  · rw [if_neg (by omega), if_neg (by omega)]
  · rw [if_neg (by omega)]
  · rw [if_neg (by omega)]
theorem rd_out {l lo hi d x : Int} (h : OkClk l lo hi d) (k : x < l ∨ 2199023255552 < x) : (rdE l x = 1 ∨ rdE l x = 9) ∧ rdA l lo d x = 0 ∧ rdB l hi d x = 0 := by
  have := h.1
  have := h.2.1
  unfold rdE rdA rdB
  refine ⟨?_, by rw [if_pos k], by rw [if_pos k]⟩
  by_cases c : x < 0 ∨ 2199023255552 < x
  · rw [if_pos c]; exact Or.inl rfl
  · rw [if_neg c, if_pos (by omega)]; exact Or.inr rfl
theorem read_fn (l lo hi d x : Int) (w : World) (h : OkClk l lo hi d) :
    Calls Try.prog 26 #[clk l lo hi d, .int .i64 x] w fun e w' => e = .returned (.tuple #[per (rdA l lo d x) (rdB l hi d x), .int .i64 (rdE l x)]) ∧ Below w.heap.size w w' := by
  by_cases k : x < l ∨ 2199023255552 < x
  · obtain ⟨-, e2, e3⟩ := rd_out h k
    rw [e2, e3]
    by_cases c : x < 0 ∨ 2199023255552 < x
    · rw [show rdE l x = 1 by unfold rdE; rw [if_pos c]]
      exact read_arg l lo hi d x w h c
    · rw [show rdE l x = 9 by unfold rdE; rw [if_neg c, if_pos (by omega)]]
      exact read_time l lo hi d x w h (by omega) (by omega) (by omega)
  · obtain ⟨e1, e2, e3⟩ := rd_in h (x := x) (by omega) (by omega)
    rw [e1, e2, e3]
    exact read_ok l lo hi d x w h (by omega) (by omega)
theorem readref_fn (l lo hi d x : Int) (w : World) (h : OkClk l lo hi d) :
    Calls Try.prog 27 #[clk l lo hi d, .int .i64 x] w fun e w' => e = .returned (rdd (rdA l lo d x) (rdB l hi d x) (rdE l x)) ∧ Below w.heap.size w w' := by
  have h0 := h
  obtain ⟨h1, h2, h3, h4, h5, h6, h7⟩ := h
  by_cases k : x < l ∨ 2199023255552 < x
  · obtain ⟨-, e2, e3⟩ := rd_out h0 k
    rw [e2, e3]
    by_cases c : x < 0 ∨ 2199023255552 < x
    · rw [show rdE l x = 1 by unfold rdE; rw [if_pos c]]
      exact readref_arg l lo hi d x w c
    · rw [show rdE l x = 9 by unfold rdE; rw [if_neg c, if_pos (by omega)]]
      exact readref_time l lo hi d x w h1 h2 (by omega) (by omega) (by omega)
  · obtain ⟨e1, e2, e3⟩ := rd_in h0 (x := x) (by omega) (by omega)
    rw [e1, e2, e3]
    exact readref_ok l lo hi d x w h1 h2 h3 h4 h5 h6 h7 (by omega) (by omega)
/-- What a reading is, by its error. -/
def RD (l lo hi d x a b er : Int) : Prop := (er = 0 ∧ l ≤ x ∧ x ≤ 2199023255552 ∧ a = rdLo lo d (x - l) ∧ b = rdHi hi d (x - l)) ∨ ((er = 1 ∨ er = 9) ∧ (x < l ∨ 2199023255552 < x) ∧ a = 0 ∧ b = 0)
theorem rd_is {l lo hi d x : Int} (h : OkClk l lo hi d) : RD l lo hi d x (rdA l lo d x) (rdB l hi d x) (rdE l x) := by
  by_cases k : x < l ∨ 2199023255552 < x
  · obtain ⟨e1, e2, e3⟩ := rd_out h k
    exact Or.inr ⟨e1, k, e2, e3⟩
  · obtain ⟨e1, e2, e3⟩ := rd_in h (x := x) (by omega) (by omega)
    exact Or.inl ⟨e1, by omega, by omega, e2, e3⟩
def SomeRead (l lo hi d x : Int) (w : World) (e : Ending) (w' : World) : Prop := ∃ a b er, e = .returned (.tuple #[per a b, .int .i64 er]) ∧ RD l lo hi d x a b er ∧ Below w.heap.size w w'
theorem read_rd (l lo hi d x : Int) (w : World) (h : OkClk l lo hi d) : Calls Try.prog 26 #[clk l lo hi d, .int .i64 x] w (SomeRead l lo hi d x w) :=
  (read_fn l lo hi d x w h).mono fun _ _ ⟨he, hb⟩ => ⟨_, _, _, he, rd_is h, hb⟩
/-- What a clock is after a message. -/
def synE (l lo hi d x a b : Int) : Int := if validB a b = false then 1 else if x < l ∨ 2199023255552 < x then rdE l x else if min b (rdHi hi d (x - l)) < max a (rdLo lo d (x - l)) then 9 else 0
def synL (l lo hi d x a b : Int) : Int := if synE l lo hi d x a b = 0 then x else 0
def synA (l lo hi d x a b : Int) : Int := if synE l lo hi d x a b = 0 then max a (rdLo lo d (x - l)) else 0
def synB (l lo hi d x a b : Int) : Int := if synE l lo hi d x a b = 0 then min b (rdHi hi d (x - l)) else 0
def synD (l lo hi d x a b : Int) : Int := if synE l lo hi d x a b = 0 then d else 0
theorem syn_err {l lo hi d x a b e : Int} (h : synE l lo hi d x a b = e) (he : e ≠ 0) : synL l lo hi d x a b = 0 ∧ synA l lo hi d x a b = 0 ∧ synB l lo hi d x a b = 0 ∧ synD l lo hi d x a b = 0 := by
  subst h
  unfold synL synA synB synD
  simp only [if_neg he, and_self]
theorem syn_ok {l lo hi d x a b : Int} (h : synE l lo hi d x a b = 0) : synL l lo hi d x a b = x ∧ synA l lo hi d x a b = max a (rdLo lo d (x - l)) ∧ synB l lo hi d x a b = min b (rdHi hi d (x - l)) ∧ synD l lo hi d x a b = d := by
  unfold synL synA synB synD
  simp only [if_pos h, and_self]
theorem sync_fn (l lo hi d x a b : Int) (w : World) (h : OkClk l lo hi d) :
    Calls Try.prog 28 #[clk l lo hi d, .int .i64 x, per a b] w fun e w' => e = .returned (.tuple #[clk (synL l lo hi d x a b) (synA l lo hi d x a b) (synB l lo hi d x a b) (synD l lo hi d x a b), .int .i64 (synE l lo hi d x a b)]) ∧ Below w.heap.size w w' := by
  by_cases v : validB a b = false
  · have e : synE l lo hi d x a b = 1 := by unfold synE; rw [if_pos v]
    obtain ⟨e1, e2, e3, e4⟩ := syn_err e (by omega)
    rw [e, e1, e2, e3, e4]
    exact sync_bad l lo hi d x a b w v
  have v' : 0 ≤ a ∧ a ≤ b ∧ b ≤ 1099511627776 := by
    have : validB a b = true := by simpa using v
    simpa [validB] using this
  by_cases k : x < l ∨ 2199023255552 < x
  · by_cases c : x < 0 ∨ 2199023255552 < x
    · have e : synE l lo hi d x a b = 1 := by unfold synE; rw [if_neg v, if_pos k]; unfold rdE; rw [if_pos c]
      obtain ⟨e1, e2, e3, e4⟩ := syn_err e (by omega)
      rw [e, e1, e2, e3, e4]
      exact sync_arg l lo hi d x a b w h v' c
    · have e : synE l lo hi d x a b = 9 := by unfold synE; rw [if_neg v, if_pos k]; unfold rdE; rw [if_neg c, if_pos (by omega)]
      obtain ⟨e1, e2, e3, e4⟩ := syn_err e (by omega)
      rw [e, e1, e2, e3, e4]
      exact sync_time l lo hi d x a b w h v' (by omega) (by omega) (by omega)
  · by_cases m : min b (rdHi hi d (x - l)) < max a (rdLo lo d (x - l))
    · have e : synE l lo hi d x a b = 9 := by unfold synE; rw [if_neg v, if_neg k, if_pos m]
      obtain ⟨e1, e2, e3, e4⟩ := syn_err e (by omega)
      rw [e, e1, e2, e3, e4]
      exact sync_no l lo hi d x a b w h v' (by omega) (by omega) m
    · have e : synE l lo hi d x a b = 0 := by unfold synE; rw [if_neg v, if_neg k, if_neg m]
      obtain ⟨e1, e2, e3, e4⟩ := syn_ok e
      rw [e, e1, e2, e3, e4]
      exact sync_ok l lo hi d x a b w h v' (by omega) (by omega) (by omega)
theorem syncref_fn (l lo hi d x a b : Int) (w : World) (h : OkClk l lo hi d) :
    Calls Try.prog 29 #[clk l lo hi d, .int .i64 x, per a b] w fun e w' => e = .returned (synd (synL l lo hi d x a b) (synA l lo hi d x a b) (synB l lo hi d x a b) (synD l lo hi d x a b) (synE l lo hi d x a b)) ∧ Below w.heap.size w w' := by
  by_cases v : validB a b = false
  · have e : synE l lo hi d x a b = 1 := by unfold synE; rw [if_pos v]
    obtain ⟨e1, e2, e3, e4⟩ := syn_err e (by omega)
    rw [e, e1, e2, e3, e4]
    exact syncref_bad l lo hi d x a b w v
  have v' : 0 ≤ a ∧ a ≤ b ∧ b ≤ 1099511627776 := by
    have : validB a b = true := by simpa using v
    simpa [validB] using this
  by_cases k : x < l ∨ 2199023255552 < x
  · by_cases c : x < 0 ∨ 2199023255552 < x
    · have e : synE l lo hi d x a b = 1 := by unfold synE; rw [if_neg v, if_pos k]; unfold rdE; rw [if_pos c]
      obtain ⟨e1, e2, e3, e4⟩ := syn_err e (by omega)
      rw [e, e1, e2, e3, e4]
      exact syncref_arg l lo hi d x a b w h v' c
    · have e : synE l lo hi d x a b = 9 := by unfold synE; rw [if_neg v, if_pos k]; unfold rdE; rw [if_neg c, if_pos (by omega)]
      obtain ⟨e1, e2, e3, e4⟩ := syn_err e (by omega)
      rw [e, e1, e2, e3, e4]
      exact syncref_time l lo hi d x a b w h v' (by omega) (by omega) (by omega)
  · by_cases m : min b (rdHi hi d (x - l)) < max a (rdLo lo d (x - l))
    · have e : synE l lo hi d x a b = 9 := by unfold synE; rw [if_neg v, if_neg k, if_pos m]
      obtain ⟨e1, e2, e3, e4⟩ := syn_err e (by omega)
      rw [e, e1, e2, e3, e4]
      exact syncref_no l lo hi d x a b w h v' (by omega) (by omega) (by omega)
    · have e : synE l lo hi d x a b = 0 := by unfold synE; rw [if_neg v, if_neg k, if_neg m]
      obtain ⟨e1, e2, e3, e4⟩ := syn_ok e
      rw [e, e1, e2, e3, e4]
      have := syncref_ok l lo hi d x a b w h v' (by omega) (by omega) (by omega)
      rwa [Int.max_comm (rdLo lo d (x - l)) a, Int.min_comm (rdHi hi d (x - l)) b] at this
def SomeSync (l lo hi d x a b : Int) (w : World) (e : Ending) (w' : World) : Prop :=
  ∃ l2 a2 b2 d2 er, e = .returned (.tuple #[clk l2 a2 b2 d2, .int .i64 er]) ∧ (er = 0 ∧ l2 = x ∧ d2 = d ∧ a2 = max a (rdLo lo d (x - l)) ∧ b2 = min b (rdHi hi d (x - l)) ∧ a2 ≤ b2 ∧ 0 ≤ a ∧ b ≤ 1099511627776 ∧ l ≤ x ∧ x ≤ 2199023255552 ∨ er ≠ 0) ∧ Below w.heap.size w w'
theorem sync_sy (l lo hi d x a b : Int) (w : World) (h : OkClk l lo hi d) : Calls Try.prog 28 #[clk l lo hi d, .int .i64 x, per a b] w (SomeSync l lo hi d x a b w) :=
  (sync_fn l lo hi d x a b w h).mono fun _ _ ⟨he, hb⟩ => ⟨_, _, _, _, _, he, by
    by_cases z : synE l lo hi d x a b = 0
    · obtain ⟨e1, e2, e3, e4⟩ := syn_ok z
      rw [e1, e2, e3, e4]
      have hz := z
      unfold synE at hz
      split at hz
      · omega
      · rename_i v
        have v' : 0 ≤ a ∧ a ≤ b ∧ b ≤ 1099511627776 := by
          have : validB a b = true := by simpa using v
          simpa [validB] using this
        split at hz
        · unfold rdE at hz
          have := h.1
          split at hz
          · omega
          · split at hz <;> omega
        · split at hz
          · omega
          · exact Or.inl ⟨z, rfl, rfl, rfl, rfl, by omega, v'.1, v'.2.2, by omega, by omega⟩
    · exact Or.inr z, hb⟩
end Go.Proofs.Ytnojnfmhinjcpaa
