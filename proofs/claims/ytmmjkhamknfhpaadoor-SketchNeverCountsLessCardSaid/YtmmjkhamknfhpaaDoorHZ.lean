/- Ported from another seat (wip/hash/Z.src, by wip/port.py): contracts that this chapter calls. -/
import Derived.Test.YtmmjkhamknfhpaaDoorHW
import Derived.Test.YtmmjkhamknfhpaaDoorHT
namespace Go.Proofs.YtmmjkhamknfhpaaDoor
set_option linter.unusedVariables false
set_option linter.unusedSimpArgs false
open Go.RowKit
def iv (x : Int) : Value := .int .i64 x
/-- A row of integers of the call's own, from block B on. -/
def OwnI (W : World) (B : Nat) (v : Value) (l : List Int) : Prop := W.ownsRow B 3 1 v l.length (l.map iv)
theorem OwnI.nil (W : World) (B : Nat) : OwnI W B (.slice none 0 0) [] := World.ownsRow_nil W B 3 1
theorem infoI : (Tryd.prog.info? 3).map (fun i => (i.zero, i.size, i.bytes)) = some (some (.int .i64 0), 1, 8) := by kernel_rfl
theorem OwnI.lt {w : World} {B : Nat} {v : Value} {l : List Int} (h : OwnI w B v l) : ∀ k, v.ownBlock = some k → B ≤ k := fun k hk => (own_lt h k hk).1
theorem wpAppI {ops : Array Oper} {rest : List Oper} {o : Oper} {a : Act} {Q : Exit → Act → World → Prop} {w : World} (hgd : o.guard = none) (s x : Operand)
    (ho : o.op = .call { callee := .builtin .append, args := #[s, x], argTypes := #[22, 22] }) (B : Nat) (v : Value) (l : List Int) (hs : a.eval s = v) (hown : OwnI w B v l) (y : Int) (u : Value) (hu : u = iv y)
    (hx : a.eval x = .slice (some ⟨w.heap.size, 0, none⟩) 1 1) (hl : l.length ≤ 1000000000) (hB : B ≤ w.heap.size)
    (h : ∀ v' w', OwnI w' B v' (l ++ [y]) → Below B w w' → wpList Tryd.prog ops Q rest (a.put o.dst v') w') : wpList Tryd.prog ops Q (o :: rest) a (w.alloc (.cells #[u] 3)) := by
  obtain ⟨i0, hi, hz0, hz1, hz2⟩ := info_parts infoI
  subst hu
  refine wpList_append_own _ hgd s x 22 ho B 3 i0 (.int .i64 0) 1 8 Tryd.underlying22 hi hz0 hz1 hz2 rfl (by decide) v l.length (l.map iv) hs (own_alloc hown _) ⟨w.heap.size, 0, none⟩ 1 1 [iv y] hx rfl (cell_one_new _ _ _) (by simp [iv, Value.oneCell']) (by unfold maxLen; omega) (by omega) (by simp; omega) ?_
  intro v' w' h1 h2 _
  refine h v' w' ?_ (grown_below ((Below.refl _ _).alloc hB _) h2 hown.lt (by simp; omega))
  unfold OwnI
  rw [List.length_append, List.map_append]
  exact h1
theorem OwnI.view {W : World} {B : Nat} {v : Value} {l : List Int} (h : OwnI W B v l) : ∃ a cap, v = .slice a l.length cap ∧ l.length ≤ cap ∧ IntsA W a l := by
  obtain ⟨a, cap, rfl, hc, h1⟩ := own_view h
  refine ⟨a, cap, rfl, hc, fun k hk => ?_⟩
  obtain ⟨g, rfl, h2⟩ := h1 k (by omega)
  exact ⟨g, 0, rfl, by rw [Nat.zero_add]; exact h2 _ (map_at iv l 0 k hk)⟩
end Go.Proofs.YtmmjkhamknfhpaaDoor
