import Derived.Test.YtcgdhankllphgaaRBA
namespace Go.Proofs.Ytcgdhankllphgaa
set_option linter.unusedVariables false
set_option linter.unusedSimpArgs false
set_option linter.unusedSectionVars false
open Go.RowKit
def IntsA (W : World) (a : Option Addr) (l : List Int) : Prop := ∀ k, k < l.length → ∃ b off, a = some ⟨b, off, none⟩ ∧ W.cell? ⟨b, off + k, none⟩ = some (.int .i64 (l.getD k 0))
theorem IntsA.mono {W W' : World} {a : Option Addr} {l : List Int} (h : IntsA W a l) (hb : Below W.heap.size W W') : IntsA W' a l := by
  intro k hk
  obtain ⟨b, off, e, h1⟩ := h k hk
  exact ⟨b, off, e, keep h1 hb⟩
def iv (x : Int) : Value := .int .i64 x
def OwnI (W : World) (B : Nat) (v : Value) (l : List Int) : Prop := W.ownsRow B 3 1 v l.length (l.map iv)
theorem OwnI.nil (W : World) (B : Nat) : OwnI W B (.slice none 0 0) [] := World.ownsRow_nil W B 3 1
theorem OwnI.lt {w : World} {B : Nat} {v : Value} {l : List Int} (h : OwnI w B v l) : ∀ k, v.ownBlock = some k → B ≤ k := fun k hk => (own_lt h k hk).1
theorem OwnI.view {W : World} {B : Nat} {v : Value} {l : List Int} (h : OwnI W B v l) : ∃ a cap, v = .slice a l.length cap ∧ l.length ≤ cap ∧ IntsA W a l := by
  obtain ⟨a, cap, rfl, hc, h1⟩ := own_view h
  refine ⟨a, cap, rfl, hc, fun k hk => ?_⟩
  obtain ⟨g, rfl, h2⟩ := h1 k (by omega)
  exact ⟨g, 0, rfl, by rw [Nat.zero_add]; exact h2 _ (map_at iv l 0 k hk)⟩
def RowI (W : World) (g : Nat) (l : List Int) : Prop := ∃ cs, Blk W g 3 cs ∧ ∀ k, k < l.length → cs[k]? = some (iv (l.getD k 0))
theorem RowI.lt {W : World} {g : Nat} {l : List Int} (h : RowI W g l) : g < W.heap.size := by obtain ⟨cs, h, -⟩ := h; exact h.lt
theorem RowI.cell {W : World} {g : Nat} {l : List Int} (h : RowI W g l) {k : Nat} (hk : k < l.length) : W.cell? ⟨g, k, none⟩ = some (.int .i64 (l.getD k 0)) := by obtain ⟨cs, h, h1⟩ := h; rw [h.cell]; exact h1 k hk
theorem RowI.frozen {W : World} {g : Nat} {l : List Int} (h : RowI W g l) (k : Nat) : W.frozen? ⟨g, k, none⟩ = false := by obtain ⟨cs, h, -⟩ := h; exact h.frozen k
theorem RowI.set_ {W : World} {g : Nat} {l : List Int} (h : RowI W g l) (k : Nat) (x : Int) : RowI (W.setCell ⟨g, k, none⟩ (.int .i64 x)) g (l.set k x) := by
  obtain ⟨cs, h, h1⟩ := h
  refine ⟨_, h.set_ k _, fun j hj => ?_⟩
  rw [List.length_set] at hj
  have h2 := h1 j hj
  have hsz : j < cs.size := by
    rcases Nat.lt_or_ge j cs.size with h | h
    · exact h
    · rw [Array.getElem?_eq_none h] at h2; cases h2
  by_cases hjk : k = j
  · subst hjk
    rw [Array.getElem?_setIfInBounds_self_of_lt hsz, List.getD_eq_getElem?_getD, List.getElem?_set_self hj]
    rfl
  · rw [Array.getElem?_setIfInBounds_ne hjk, h2, List.getD_eq_getElem?_getD, List.getD_eq_getElem?_getD, List.getElem?_set_ne hjk]
theorem RowI.far {W : World} {g : Nat} {l : List Int} (h : RowI W g l) {p : Addr} (hp : g ≠ p.block) (u : Value) : RowI (W.setCell p u) g l := by obtain ⟨cs, h, h1⟩ := h; exact ⟨cs, h.far hp u, h1⟩
theorem RowI.alloc {W : World} {g : Nat} {l : List Int} (h : RowI W g l) (o : Obj) : RowI (W.alloc o) g l := by obtain ⟨cs, h, h1⟩ := h; exact ⟨cs, h.alloc o, h1⟩
theorem RowI.drew {W : World} {g : Nat} {l : List Int} (h : RowI W g l) : RowI W.drew g l := h
theorem RowI.drewN {W : World} {g : Nat} {l : List Int} (h : RowI W g l) (n : Nat) : RowI (W.drewN n) g l := h
theorem RowI.below {W W' : World} {g B : Nat} {l : List Int} (h : RowI W g l) (hb : Below B W W') (hg : g < B) : RowI W' g l := by obtain ⟨cs, h, h1⟩ := h; exact ⟨cs, h.below hb hg, h1⟩
theorem RowI.rowfar {W : World} {g g' : Nat} {l : List Int} (h : RowI W g l) (hne : g ≠ g') (cs' : Array Value) : RowI (W.setRow g' cs') g l := by obtain ⟨cs, h, h1⟩ := h; exact ⟨cs, h.rowfar hne cs', h1⟩
theorem OwnI.row {W : World} {B : Nat} {v : Value} {l : List Int} (h : OwnI W B v l) (hl : 0 < l.length) : ∃ g cap, v = .slice (some ⟨g, 0, none⟩) l.length cap ∧ B ≤ g ∧ l.length ≤ cap ∧ RowI W g l := by
  have hx := h.1
  rcases h.2 with ⟨rfl, h1⟩ | ⟨g, cap, cur, rfl, hbg, hg, hnc, hcm, hcs, htake⟩
  · rw [h1] at hx; simp at hx; omega
  · refine ⟨g, cap, rfl, hbg, hnc, cur, hg, fun k hk => ?_⟩
    have := congrArg (fun m : List Value => m[k]?) htake
    simp only [Nat.mul_one, List.getElem?_take, if_pos hk, List.getElem?_map] at this
    rw [List.getElem?_eq_getElem hk] at this
    rw [← Array.getElem?_toList, this, List.getD_eq_getElem?_getD, List.getElem?_eq_getElem hk]
    rfl
theorem OwnI.below {W W' : World} {B : Nat} {v : Value} {l : List Int} (h : OwnI W B v l) (hb : Below W.heap.size W W') : OwnI W' B v l := own_below h hb
theorem OwnI.far {W : World} {B : Nat} {v : Value} {l : List Int} (h : OwnI W B v l) {p : Addr} (hp : p.block < B) (u : Value) : OwnI (W.setCell p u) B v l :=
  own_keep h fun k h1 h2 => Below.heap_setCell W p u k (by omega)
theorem OwnI.drewN {W : World} {B n : Nat} {v : Value} {l : List Int} (h : OwnI W B v l) : OwnI (W.drewN n) B v l := own_draw h
theorem OwnI.drew {W : World} {B : Nat} {v : Value} {l : List Int} (h : OwnI W B v l) : OwnI W.drew B v l := own_keep h fun _ _ _ => rfl
theorem OwnI.rowfar {W : World} {B g : Nat} {v : Value} {l : List Int} (h : OwnI W B v l) (hg : g < B) (cs : Array Value) : OwnI (W.setRow g cs) B v l := own_keep h fun k h1 h2 => setRow_other W g k cs (by omega)
end Go.Proofs.Ytcgdhankllphgaa
