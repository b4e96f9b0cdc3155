import Derived.Test.YtcgdhankllphgaaRA6
import Derived.Test.YtcgdhankllphgaaRBR
namespace Go.Proofs.Ytcgdhankllphgaa
set_option linter.unusedVariables false
set_option linter.unusedSimpArgs false
set_option linter.unusedSectionVars false
section
namespace Am
open Go Go.RowKit
section
variable [Base] {P : Program} {g : FuncId} {xs : List AV} {r : AV}
abbrev F0 : Nat → Option Cn := fun _ => none
def Laid0 [Base] (w : World) : Prop := ∀ g, g < Base.w.heap.size → w.heap[g]? = Base.w.heap[g]?
theorem EC.ofBelow (hF : FnOk P g) (h : ∀ (S : Nat → Prop) (w : World) (args : List Value), Laid0 w → (∀ b, S b → b < w.heap.size) → LR S F0 w xs args →
    Calls P g args.toArray w fun e w' => ∃ v, e = .returned v ∧ Below w.heap.size w w' ∧ VR (fun b => S b ∨ (w.heap.size ≤ b ∧ b < w'.heap.size)) F0 w' r v) : EC P g [] xs [] r := by
  refine ⟨hF, fun B D S0 F w args hT hF0 hxs => ?_⟩
  have hf : F = F0 := funext fun id => hF0 id (Nat.zero_le _)
  subst hf
  refine (h _ w args (fun g hg => (hT.laid g hg).2.2) (fun b hb => hb.1) hxs).mono fun e w' hh => ?_
  obtain ⟨v, he, hb, hv⟩ := hh
  have hS : ∀ b, stab B D S0 (at_ []) F0 w b → stab B D S0 (at_ []) F0 w' b := fun b hb' => ⟨Nat.lt_of_lt_of_le hb'.1 hb.size, hb'.2.1, fun id bk cap k h1 h2 h3 => by cases h3⟩
  have ev : Ev (stab B D S0 (at_ []) F0 w) F0 w (stab B D S0 (at_ []) F0 w') F0 w' := ⟨hS, fun b hb' => hb.block b hb'.1, fun id c hc => by cases hc⟩
  refine ⟨v, F0, he, ⟨fun id b hq => by simp [at_] at hq, fun id id' b b' g cap k cap' k' hq => by simp [at_] at hq, hT.sh, Nat.le_trans hT.big hb.size, hT.laidEv ev⟩, fun _ _ => rfl, ev, ⟨hb.os, hb.tape, hb.output, hb.size, fun b h1 _ => hb.block b (Nat.lt_of_lt_of_le h1 hT.big)⟩, ?_⟩
  refine VR.mono ⟨fun b hb' => ?_, fun _ _ => rfl, fun _ _ h => .inl h⟩ hv
  rcases hb' with q | ⟨q1, q2⟩
  · exact hS b q
  · exact ⟨q2, fun q3 => by have := hT.big; omega, fun id bk cap k h1 h2 h3 => by cases h3⟩
def vrow (vs : List Value) : List AV := vs.map .v
theorem VR.rows {α : Type} {enc : α → List Value} {k : Nat} (h0 : 0 < k) (hk : ∀ x, (enc x).length = k) {S : Nat → Prop} {w : World} {l : List α} {v : Value} (h : VR S F0 w (.sl (l.map fun x => vrow (enc x))) v) :
    ∃ a c, v = .slice a l.length c ∧ True ∧ RowsA k enc w a l ∧ ∀ p, a = some p → 0 < l.length → S p.block := by
  cases h with
  | sl _ a n cap k' b o f hn hc hk' h hv =>
    have hat : ∀ (i : Nat) (x : α), l[i]? = some x → (l.map fun x => vrow (enc x))[i]? = some (vrow (enc x)) := fun i x hx => by rw [List.getElem?_map, hx]; rfl
    refine ⟨a, cap, by rw [hn]; simp, trivial, fun i x hx => ?_, fun p hp hl => ?_⟩
    · have e : k' = k := by rw [← hk' i _ (hat i x hx)]; simp [vrow, hk]
      subst e
      · have hb := (h i 0 _ (.v ((enc x)[0]'(by rw [hk]; exact h0))) (hat i x hx) (by simp [vrow])).1
        refine ⟨b, o, hb, fun j u hu => ?_⟩
        have hj : (vrow (enc x))[j]? = some (.v u) := by rw [vrow, List.getElem?_map, hu]; rfl
        have h1 := (h i j _ _ (hat i x hx) hj).2.2
        have h2 := hv i j _ _ (hat i x hx) hj
        rw [← Nat.add_assoc] at h1
        cases h2
        exact h1
    · obtain ⟨x, hx⟩ : ∃ x, l[0]? = some x := ⟨l[0], List.getElem?_eq_getElem hl⟩
      have hb := h 0 0 _ (.v ((enc x)[0]'(by rw [hk]; exact h0))) (hat 0 x hx) (by simp [vrow])
      rw [hp] at hb
      cases hb.1
      exact hb.2.1
theorem VR.ofRows {α : Type} {enc : α → List Value} {k : Nat} (hk : ∀ x, (enc x).length = k) {S : Nat → Prop} {w : World} {l : List α} {a : Option Addr} {c : Nat} (hc : True) (h : RowsA k enc w a l) (hS : ∀ p, a = some p → 0 < l.length → S p.block) :
    VR S F0 w (.sl (l.map fun x => vrow (enc x))) (.slice a l.length c) := by
  rcases l with _ | ⟨x0, l0⟩
  · exact .sl [] a 0 c k 0 0 (fun _ _ => undef) rfl hc (fun i row h => by simp at h) (fun i j row c h => by simp at h) (fun i j row c h => by simp at h)
  · obtain ⟨l, hl⟩ : ∃ l, x0 :: l0 = l := ⟨_, rfl⟩
    rw [hl] at h hS ⊢
    have hl0 : 0 < l.length := by rw [← hl]; simp
    have hx0 : l[0]? = some x0 := by rw [← hl]; rfl
    obtain ⟨b, o, ha, -⟩ := h 0 x0 hx0
    have hat : ∀ (i j : Nat) (row : List AV) (u : AV), (l.map fun x => vrow (enc x))[i]? = some row → row[j]? = some u → ∃ x y, l[i]? = some x ∧ (enc x)[j]? = some y ∧ u = .v y := fun i j row u hi hj => by
      rw [List.getElem?_map] at hi
      cases hx : l[i]? with
      | none => rw [hx] at hi; cases hi
      | some x =>
        rw [hx] at hi
        cases hi
        have hj : ((enc x).map AV.v)[j]? = some u := hj
        rw [List.getElem?_map] at hj
        cases hy : (enc x)[j]? with
        | none => rw [hy] at hj; cases hj
        | some y => rw [hy] at hj; cases hj; exact ⟨x, y, rfl, hy, rfl⟩
    refine .sl _ a _ c k b o (fun i j => match l[i]? with | some x => ((enc x)[j]?).getD undef | none => undef) (by simp) hc (fun i row hi => ?_) (fun i j row u hi hj => ?_) (fun i j row u hi hj => ?_)
    · rw [List.getElem?_map] at hi
      cases hx : l[i]? with
      | none => rw [hx] at hi; cases hi
      | some x => rw [hx] at hi; cases hi; simp [vrow, hk]
    · obtain ⟨x, y, hx, hy, rfl⟩ := hat i j row u hi hj
      refine ⟨ha, by rw [ha] at hS; exact hS _ rfl hl0, ?_⟩
      obtain ⟨b', o', e, hh⟩ := h i x hx
      rw [ha] at e
      cases e
      rw [← Nat.add_assoc, hh j y hy]
      simp [hx, hy]
    · obtain ⟨x, y, hx, hy, rfl⟩ := hat i j row u hi hj
      simp only [hx, hy, Option.getD_some]
      exact .v _
end
end Am
end
section
namespace Am
open Go Go.RowKit
theorem EC.frame [Base] {P : Program} {g : FuncId} {xs : List AV} {r : AV} (h : EC P g [] xs [] r) {args : List Value} (hx : LR (fun b => b < Base.w.heap.size) F0 Base.w xs args) :
    Calls P g args.toArray Base.w fun e w' => ∃ v, e = .returned v ∧ Below Base.w.heap.size Base.w w' ∧ VR (fun b => b < w'.heap.size) F0 w' r v := by
  have ev0 : Ev (fun b => b < Base.w.heap.size) F0 Base.w (stab Base.w.heap.size (fun _ => False) (fun b => b < Base.w.heap.size) (at_ []) F0 Base.w) F0 Base.w :=
    ⟨fun b hb => ⟨hb, fun _ => .inl hb, fun id bk cap k h1 h2 h3 => by cases h3⟩, fun _ _ => rfl, fun _ _ h => .inl h⟩
  have tab : TabR Base.w.heap.size (fun _ => False) (fun b => b < Base.w.heap.size) (at_ []) F0 Base.w :=
    ⟨fun id b hq => by simp [at_] at hq, fun id id' b b' g cap k cap' k' hq => by simp [at_] at hq, fun _ _ h => h, Nat.le_refl _, fun g hg => ⟨hg, hg, rfl⟩⟩
  refine (h.2 Base.w.heap.size (fun _ => False) (fun b => b < Base.w.heap.size) F0 Base.w args tab (fun _ _ => rfl) (hx.mono ev0)).mono fun e w' hh => ?_
  obtain ⟨v, F', he, -, hF, -, k1, hv⟩ := hh
  have hf : F' = F0 := funext fun id => hF id (Nat.zero_le _)
  subst hf
  exact ⟨v, he, ⟨k1.os, k1.tape, k1.output, k1.size, fun b hb => k1.block b hb fun h => h⟩, VR.mono ⟨fun b hb => hb.1, fun _ _ => rfl, fun _ _ h => .inl h⟩ hv⟩
theorem EC.law [Base] {P : Program} {g : FuncId} {xs : List AV} {x : Value} (h : EC P g [] xs [] (.v x)) {args : List Value} (hx : LR (fun b => b < Base.w.heap.size) F0 Base.w xs args) :
    Calls P g args.toArray Base.w fun e w' => e = .returned x ∧ Below Base.w.heap.size Base.w w' :=
  (h.frame hx).mono fun e w' ⟨v, he, hb, hv⟩ => ⟨by rw [he, hv.v_eq], hb⟩
end Am
end
section
namespace Am
open Go
section
variable [Base] {P : Program} {ti : TypeId → Option TI} {ops : Array Oper} {K : AS → Prop} {o : Oper} {r : List Oper} {i : Nat} {s : AS}
end
end Am
end
end Go.Proofs.Ytcgdhankllphgaa
