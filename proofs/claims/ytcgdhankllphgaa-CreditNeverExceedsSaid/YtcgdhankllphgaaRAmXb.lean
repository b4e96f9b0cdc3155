import Derived.Test.YtcgdhankllphgaaRA7
namespace Go.Proofs.Ytcgdhankllphgaa
set_option linter.unusedVariables false
set_option linter.unusedSimpArgs false
set_option linter.unusedSectionVars false
namespace Am
open Go Go.RowKit
section
variable [Base] {S : Nat → Prop} {F : Nat → Option Cn} {w : World}
theorem LR.inv {x : AV} {xs : List AV} {args : List Value} (h : LR S F w (x :: xs) args) : ∃ v vs, args = v :: vs ∧ VR S F w x v ∧ LR S F w xs vs := by
  cases args with
  | nil => exact absurd h.1 (by simp)
  | cons v vs => exact ⟨v, vs, rfl, h.2 0 x v rfl rfl, by have := h.1; simp at this; exact this, fun i c u h1 h2 => h.2 (i + 1) c u h1 h2⟩
theorem LR.inv0 {args : List Value} (h : LR S F w [] args) : args = [] := by
  have := h.1
  simp at this
  exact List.length_eq_zero_iff.1 this.symm
theorem LR.vals : ∀ {vs args : List Value}, LR S F w (vs.map .v) args → args = vs
  | [], args, h => LR.inv0 h
  | v :: vs, args, h => by
    obtain ⟨u, us, rfl, h1, h2⟩ := LR.inv h
    rw [h1.v_eq, LR.vals h2]
theorem VR.aggv {vs : List Value} {x : Value} (h : VR S F w (.agg (vs.map .v)) x) : x = .agg vs.toArray := by
  obtain ⟨us, rfl, q⟩ := h.agg_eq
  rw [LR.vals q]
theorem VR.ofAgg (vs : List Value) : VR S F w (.agg (vs.map .v)) (.agg vs.toArray) := (LR.plain vs).agg
theorem VR.tup' {cs : List AV} {vs : List Value} (h : LR S F w cs vs) : VR S F w (.tup cs) (.tuple vs.toArray) := .tup cs vs h.1 h.2
def nilS : AV → AV
  | .v (.slice none 0 0) => .sl []
  | x => x
theorem nilS_ok (x : AV) (v : Value) (h : VR S F w x v) : VR S F w (nilS x) v := by
  unfold nilS
  split
  · rw [h.v_eq]
    exact .sl [] none 0 0 0 0 0 (fun _ _ => undef) rfl (by first | trivial | exact Nat.le_refl _) (fun i row h => by simp at h) (fun i j row c h => by simp at h) (fun i j row c h => by simp at h)
  · exact h
theorem EC.weaker {P : Program} {g : FuncId} {T0 T1 : List Blk} {xs : List AV} {r r' : AV} (h : EC P g T0 xs T1 r) (hr : ∀ (S : Nat → Prop) (F : Nat → Option Cn) (w : World) (v : Value), VR S F w r v → VR S F w r' v) : EC P g T0 xs T1 r' :=
  ⟨h.1, fun B D S0 F w args a b c => (h.2 B D S0 F w args a b c).mono fun e w' ⟨v, F', q1, q2, q3, q4, q5, q6⟩ => ⟨v, F', q1, q2, q3, q4, q5, hr _ _ _ _ q6⟩⟩
end
theorem allOne_app (x y : List AV) : allOne (x ++ y) = (allOne x ∧ allOne y) := propext ⟨fun h => ⟨fun z hz => h z (by simp [hz]), fun z hz => h z (by simp [hz])⟩, fun h z hz => by
  rcases List.mem_append.1 hz with q | q
  · exact h.1 z q
  · exact h.2 z q⟩
def plain (l : List AV) : Prop := ∀ x ∈ l, ∃ v : Value, x = .v v ∧ v.oneCell' = true
theorem plain.one {l : List AV} (h : plain l) : allOne l := fun x hx => by obtain ⟨v, rfl, hv⟩ := h x hx; exact hv
theorem plain.map {l : List AV} (h : plain l) {f : AV → AV} (hf : ∀ v, f (.v v) = .v v) : l.map f = l := by
  rw [List.map_congr_left (g := _root_.id) fun x hx => by obtain ⟨v, rfl, -⟩ := h x hx; exact hf v, List.map_id]
theorem plain.all {l : List AV} (h : plain l) {p : AV → Bool} (hf : ∀ v, p (.v v) = true) : l.all p = true := List.all_eq_true.2 fun x hx => by obtain ⟨v, rfl, -⟩ := h x hx; exact hf v
theorem plain.all1 {l : List AV} (h : plain l) : l.all (·.ok1) = true := h.all fun _ => rfl
end Am
end Go.Proofs.Ytcgdhankllphgaa
