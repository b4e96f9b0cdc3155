/- A law for 'for x, y := range seq { .. }' whose body is never left, over an iterator that keeps state of its own in cells. -/
import Derived.Test.YtmmjkhamknfhpaaDoorF
import Derived.RangeFuncNested
import Derived.RangeFuncBound
import Derived.RangeFuncCalls
import Derived.RangeFuncLeaves
import Derived.Shelf.Abstract
import Derived.Shelf.RegionOpen
import Derived.OwnWalkIn
import Derived.TacticsInMore
import Derived.LoopNIn
import Derived.LoopIn
namespace Go.Proofs.YtmmjkhamknfhpaaDoor
set_option linter.unusedVariables false
set_option linter.unusedSimpArgs false
open Go.RowKit Go.Shelf
/-- What the iterator is told of the rest of the loop: J is I and a few blocks that are no cells. -/
def Carried {σ : Type} (I J : σ → World → Prop) : Prop :=
  (∀ s W, J s W → I s W) ∧ ∀ s s' W W', J s W → I s' W' → KeepsOthers W W' → J s' W'
/-- The iterator's contract: whatever J is carried, and each call of yield with fit numbers steps the state, so does the iterator as a whole. -/
def Iterates {σ : Type} (F : Fence) (n : Nat) (P : Program) (gf : Nat) (lb : Array Value) (I : σ → World → Prop) (fit : Int → Int → σ → Prop) (step : Int → Int → σ → σ) (s0 : σ) (fin : σ → Prop) : Prop :=
  ∀ (l : Nat) (J : σ → World → Prop), Carried I J →
    (∀ x y s W, fit x y s → J s W → YieldAt F (n - 1) P l #[.int .i64 x, .int .i64 y] W fun e W' => e = .returned (.bool true) ∧ J (step x y s) W') →
    ∀ W, J s0 W → CallsIn F n P gf (#[.func (.yield l) #[] #[]] ++ lb) W fun e W' => (∃ v, e = .returned v) ∧ ∃ s, fin s ∧ J s W'
theorem range_run {σ : Type} {F : Fence} {n : Nat} {P : Program} {g : Operand} {p q : Tmp} {assign body : Code} {Q : Exit → Act → World → Prop} {a : Act} {w : World}
    (hro : F.round = none) (h1 : 1 ≤ n) {gf : Nat} {lb : Array Value} (hg : a.eval g = .func (.func gf) #[] lb) (hFg : F.fn gf) (eg : ∀ args w, (callFunc gf args).run P w = .ok (.enter gf args) w)
    (I : σ → World → Prop) (fit : Int → Int → σ → Prop) (step : Int → Int → σ → σ) (s0 : σ) (fin : σ → Prop)
    (hput : ∀ s W l o o', I s W → w.heap.size ≤ l → W.heap[l]? = some o → o.isCells = false → I s (W.putObj l o'))
    (hnew : ∀ o o', I s0 ((w.alloc o).alloc o'))
    (hit : Iterates F (n - 1) P gf lb I fit step s0 fin)
    (a₁ : Int → Int → Act)
    (hassign : ∀ (l : Nat) (x y : Int) (W : World) (K : Act → World → Prop), K (a₁ x y) W →
      assign.wpIn (F.inRound l) (n - 1 - 1) P (Exit.then K (fun _ _ _ => False)) { tmps := (a.tmps.setIfInBounds p (.int .i64 x)).setIfInBounds q (.int .i64 y), defers := [] } W)
    (hbody : ∀ (l : Nat) (x y : Int) (s : σ) (W : World), fit x y s → I s W →
      body.wpIn (F.inRound l) (n - 1 - 1) P (fun e _ W' => e = .normal ∧ KeepsOthers W W' ∧ I (step x y s) W') (a₁ x y) W)
    (hdone : ∀ (D : Nat) (s : σ) (W : World), w.heap.size ≤ D → fin s → I s W → W.heap[D]? = some (.deferred (some [])) → Q .normal { a with defers := { target := .collected D, args := #[] } :: a.defers } W) :
    (Code.rangeFunc g #[p, q] assign body).wpIn F n P Q a w := by
  refine wpIn_rangeFunc fun fn hfn => ?_
  rw [hro]
  let R (st : LoopState) : Loop := { state := st, pending := none, fn, tmps := a.tmps, params := #[p, q], assign, body, defers := w.heap.size }
  obtain ⟨W1, hW1⟩ : ∃ W1, (w.alloc (.deferred (some []))).alloc (.loop (R .ready)) = W1 := ⟨_, rfl⟩
  have hl1 : W1.heap[w.heap.size + 1]? = some (.loop (R .ready)) := by
    have h := World.alloc_heap_new (w.alloc (.deferred (some []))) (.loop (R .ready))
    rw [World.size_alloc, hW1] at h; exact h
  have hd1 : W1.heap[w.heap.size]? = some (.deferred (some [])) := by
    rw [← hW1]; exact (Below.heap_alloc _ _ _ (by simp)).trans (World.alloc_heap_new w _)
  have hi1 : I s0 W1 := hW1 ▸ hnew _ _
  let J (s : σ) (W : World) : Prop := I s W ∧ W.heap[w.heap.size + 1]? = some (.loop (R .ready)) ∧ W.heap[w.heap.size]? = some (.deferred (some []))
  refine ⟨w.heap.size + 1, _, W1, { target := .fn (.func gf) lb, args := #[.func (.yield (w.heap.size + 1)) #[] #[]] }, W1, gf, #[.func (.yield (w.heap.size + 1)) #[] #[]] ++ lb, W1, hW1 ▸ run_enterLoop_outer _ _ _ _ _, ?_, ?_, ?_, fun _ => h1, ?_⟩
  · simp only [resolve, hg]; simp [go_sem]
  · intro f' hf'; simp [Target.leads] at hf'; subst hf'; exact hFg
  · simp [invoke, go_sem, eg]
  · refine (hit (w.heap.size + 1) J ⟨fun _ _ h => h.1, fun s s' W W' h hi hk => ⟨hi, hk.same _ _ h.2.1 rfl, hk.same _ _ h.2.2 rfl⟩⟩ ?_ W1 ⟨hi1, hl1, hd1⟩).mono ?_
    · rintro x y s W hf ⟨hi, hl, hd⟩
      have hlt : w.heap.size + 1 < W.heap.size := (Array.getElem?_eq_some_iff.1 hl).1
      have hy := run_yield (P := P) (args := #[.int .i64 x, .int .i64 y]) hl rfl
      refine ⟨fn, _, assign, body, by simpa [R] using hy, roundIn_of_wpIn hfn (hassign _ x y W _ ⟨_, run_beginRound hl rfl, ?_⟩)⟩
      obtain ⟨W2, hW2⟩ : ∃ W2, W.putObj (w.heap.size + 1) (.loop { R .ready with state := .busy }) = W2 := ⟨_, rfl⟩
      rw [hW2]
      have hl2 : W2.heap[w.heap.size + 1]? = some (.loop { R .ready with state := .busy }) := hW2 ▸ World.putObj_heap_same hlt
      have hd2 : W2.heap[w.heap.size]? = some (.deferred (some [])) := hW2 ▸ (World.putObj_heap_other (by omega)).trans hd
      refine wpIn_mono (hbody _ x y s W2 hf (hW2 ▸ hput _ _ _ _ _ hi (by omega) hl rfl)) ?_
      rintro e a3 W3 ⟨rfl, hk, hi3⟩
      have hl3 := hk.same _ _ hl2 rfl
      have hlt3 := (Array.getElem?_eq_some_iff.1 hl3).1
      exact ⟨_, _, run_endRound none hl3, rfl, hput _ _ _ _ _ hi3 (by omega) hl3 rfl, World.putObj_heap_same hlt3, (World.putObj_heap_other (by omega)).trans (hk.same _ _ hd2 rfl)⟩
    · rintro e W2 ⟨⟨v, rfl⟩, s, hs, hi, hl, hd⟩
      exact ⟨none, _, run_endLoop (P := P) hl (by simp [R]), hdone _ s _ (Nat.le_refl _) hs (hput _ _ _ _ _ hi (by omega) hl rfl) ((World.putObj_heap_other (by omega)).trans hd)⟩
end Go.Proofs.YtmmjkhamknfhpaaDoor
