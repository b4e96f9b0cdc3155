import Derived.Test.YtcgdhankllphgaaRBA
namespace Go.Proofs.Ytcgdhankllphgaa
set_option linter.unusedVariables false
set_option linter.unusedSimpArgs false
set_option linter.unusedSectionVars false
open Go.RowKit
section
variable {α : Type} {P : Program}
theorem flat_len {k : Nat} {enc : α → List Value} (hk : ∀ x, (enc x).length = k) (l : List α) : (l.flatMap enc).length = l.length * k := by
  induction l with
  | nil => simp
  | cons x l ih => simp only [List.flatMap_cons, List.length_append, hk, ih, List.length_cons, Nat.add_mul]; omega
theorem flat_at {k : Nat} {enc : α → List Value} (hk : ∀ x, (enc x).length = k) (l : List α) (i j : Nat) (hj : j < k) : (l.flatMap enc)[i * k + j]? = (l[i]?).bind fun x => (enc x)[j]? := by
  induction l generalizing i with
  | nil => simp
  | cons x l ih =>
    cases i with
    | zero => simp only [List.flatMap_cons, Nat.zero_mul, Nat.zero_add]; rw [List.getElem?_append_left (by rw [hk]; exact hj)]; simp
    | succ i =>
      rw [List.flatMap_cons, List.getElem?_append_right (by rw [hk, Nat.add_mul]; omega), hk, List.getElem?_cons_succ, ← ih i]
      congr 1
      rw [Nat.add_mul]; omega
def RowsA (k : Nat) (enc : α → List Value) (W : World) (a : Option Addr) (l : List α) : Prop :=
  ∀ i x, l[i]? = some x → ∃ b off, a = some ⟨b, off, none⟩ ∧ ∀ j u, (enc x)[j]? = some u → W.cell? ⟨b, off + i * k + j, none⟩ = some u
theorem RowsA.mono {k : Nat} {enc : α → List Value} {W W' : World} {a : Option Addr} {l : List α} (h : RowsA k enc W a l) (hb : Below W.heap.size W W') : RowsA k enc W' a l := by
  intro i x hx
  obtain ⟨b, off, e, h1⟩ := h i x hx
  exact ⟨b, off, e, fun j u hu => keep (h1 j u hu) hb⟩
theorem RowsA.nil (k : Nat) (enc : α → List Value) (W : World) (a : Option Addr) : RowsA k enc W a [] := fun i x h => by simp at h
def OwnR (e k : Nat) (enc : α → List Value) (W : World) (B : Nat) (v : Value) (l : List α) : Prop := W.ownsRow B e k v l.length (l.flatMap enc)
theorem OwnR.nil (e k : Nat) (enc : α → List Value) (W : World) (B : Nat) : OwnR e k enc W B (.slice none 0 0) [] := World.ownsRow_nil W B e k
theorem OwnR.lt {e k : Nat} {enc : α → List Value} {W : World} {B : Nat} {v : Value} {l : List α} (h : OwnR e k enc W B v l) : ∀ g, v.ownBlock = some g → B ≤ g := fun g hg => (own_lt h g hg).1
theorem OwnR.below {e k : Nat} {enc : α → List Value} {W W' : World} {B : Nat} {v : Value} {l : List α} (h : OwnR e k enc W B v l) (hb : Below W.heap.size W W') : OwnR e k enc W' B v l := own_below h hb
theorem OwnR.alloc {e k : Nat} {enc : α → List Value} {W : World} {B : Nat} {v : Value} {l : List α} (h : OwnR e k enc W B v l) (o : Obj) : OwnR e k enc (W.alloc o) B v l := own_alloc h o
theorem OwnR.drew {e k : Nat} {enc : α → List Value} {W : World} {B : Nat} {v : Value} {l : List α} (h : OwnR e k enc W B v l) : OwnR e k enc W.drew B v l := own_keep h fun _ _ _ => rfl
theorem OwnR.far {e k : Nat} {enc : α → List Value} {W : World} {B : Nat} {v : Value} {l : List α} (h : OwnR e k enc W B v l) {p : Addr} (hp : p.block < B) (u : Value) : OwnR e k enc (W.setCell p u) B v l :=
  own_keep h fun g hg _ => Below.heap_setCell W p u g (by omega)
theorem OwnR.view {e k : Nat} {enc : α → List Value} (hk : ∀ x, (enc x).length = k) {W : World} {B : Nat} {v : Value} {l : List α} (h : OwnR e k enc W B v l) : ∃ a cap, v = .slice a l.length cap ∧ l.length ≤ cap ∧ RowsA k enc W a l := by
  obtain ⟨a, cap, rfl, hc, h1⟩ := own_view h
  refine ⟨a, cap, rfl, hc, fun i x hx => ?_⟩
  have hi : i < l.length := by
    rcases Nat.lt_or_ge i l.length with hi | hi
    · exact hi
    · rw [List.getElem?_eq_none hi] at hx; cases hx
  rcases Nat.eq_zero_or_pos k with h0 | h0
  · -- no cells at all: any address does, but there is one only where the row has a block
    rcases h.2 with ⟨_, hz⟩ | ⟨g, cap', cur, e', _⟩
    · omega
    · injection e' with e1
      exact ⟨g, 0, e1, fun j u hu => by have := (List.getElem?_eq_some_iff.1 hu).1; rw [hk] at this; omega⟩
  · obtain ⟨g, rfl, -⟩ := h1 (i * k) (by exact Nat.mul_lt_mul_of_pos_right hi h0)
    refine ⟨g, 0, rfl, fun j u hu => ?_⟩
    have hj : j < k := by have := (List.getElem?_eq_some_iff.1 hu).1; rwa [hk] at this
    have hp : i * k + j < l.length * k := by
      have : (i + 1) * k ≤ l.length * k := Nat.mul_le_mul_right k hi
      rw [Nat.add_mul] at this; omega
    obtain ⟨g', e', h2⟩ := h1 (i * k + j) hp
    injection e' with e1; injection e1 with e1
    subst e1
    rw [Nat.zero_add]
    exact h2 u (by rw [flat_at hk l i j hj, hx]; exact hu)
theorem RowsA.rowfar {k : Nat} {enc : α → List Value} {W : World} {a : Option Addr} {l : List α} {g : Nat} (h : RowsA k enc W a l) (hg : ∀ p, a = some p → p.block ≠ g) (cs : Array Value) : RowsA k enc (W.setRow g cs) a l := by
  intro i x hx
  obtain ⟨b, off, e, h1⟩ := h i x hx
  refine ⟨b, off, e, fun j u hu => ?_⟩
  have h2 := h1 j u hu
  have e2 : (W.setRow g cs).heap[b]? = W.heap[b]? := setRow_other W g b cs (hg _ e)
  unfold World.cell? at h2 ⊢
  simp only at h2 ⊢
  rw [e2]; exact h2
theorem RowsA.far {k : Nat} {enc : α → List Value} {W : World} {a : Option Addr} {l : List α} (h : RowsA k enc W a l) {p : Addr} (hg : ∀ q, a = some q → q.block ≠ p.block) (u : Value) : RowsA k enc (W.setCell p u) a l := by
  intro i x hx
  obtain ⟨b, off, e, h1⟩ := h i x hx
  refine ⟨b, off, e, fun j v hv => ?_⟩
  have h2 := h1 j v hv
  have e2 : (W.setCell p u).heap[b]? = W.heap[b]? := Below.heap_setCell W p u b (hg _ e)
  unfold World.cell? at h2 ⊢
  simp only at h2 ⊢
  rw [e2]; exact h2
theorem OwnR.block {e k : Nat} {enc : α → List Value} {W : World} {B n c : Nat} {a : Option Addr} {l : List α} (h : OwnR e k enc W B (.slice a n c) l) : ∀ p, a = some p → B ≤ p.block := fun p hp => h.lt p.block (by subst hp; rfl)
theorem src_rows {t e k : Nat} {enc : α → List Value} (ht : P.underlying t = some (.slice e)) (hk : ∀ x, (enc x).length = k) (hk0 : 0 < k) (h1 : ∀ x, ∀ v ∈ enc x, v.oneCell' = true) {W : World} {a : Option Addr} {l : List α} {cap : Nat} (h : RowsA k enc W a l) :
    Src P k t (.slice a l.length cap) l.length (l.flatMap enc) W := by
  have hone : ∀ u ∈ l.flatMap enc, u.oneCell' = true := fun u hu => by obtain ⟨x, _, hx⟩ := List.mem_flatMap.1 hu; exact h1 x u hx
  cases l with
  | nil =>
    cases a with
    | none => exact Src.ofNil W ht cap
    | some p => exact Src.ofSlice W ht p 0 cap [] (by simp) (fun j u hu => by simp at hu) (fun u hu => by cases hu)
  | cons x l =>
    obtain ⟨b, off, rfl, -⟩ := h 0 x rfl
    refine Src.ofSlice W ht ⟨b, off, none⟩ (x :: l).length cap _ (flat_len hk _) (fun j u hu => ?_) hone
    have hd : j = j / k * k + j % k := by rw [Nat.mul_comm]; exact (Nat.div_add_mod j k).symm
    rw [hd, flat_at hk _ _ _ (Nat.mod_lt _ hk0)] at hu
    cases hx : (x :: l)[j / k]? with
    | none => rw [hx] at hu; simp at hu
    | some y =>
      rw [hx] at hu
      obtain ⟨b', off', e', h2⟩ := h _ _ hx
      injection e' with e1; injection e1 with e1 e2
      subst e1; subst e2
      rw [add_off]
      conv => lhs; rw [hd, ← Nat.add_assoc]
      exact h2 _ u hu
theorem run_app_rows {t tx ty e k bytes : Nat} {z : Value} {enc : α → List Value} (ht : P.underlying t = some (.slice e)) (htx : P.underlying tx = some (.slice e)) (hinfo : (P.info? e).map (fun i => (i.zero, i.size, i.bytes)) = some (some z, k, bytes)) (hz : z.cells.size = k) (hk0 : 0 < k) (hb0 : bytes ≤ 1024)
    (hk : ∀ x, (enc x).length = k) (h1 : ∀ x, ∀ v ∈ enc x, v.oneCell' = true) (w : World) (B : Nat) (v : Value) (l : List α) (hown : OwnR e k enc w B v l) (a : Option Addr) (cap : Nat) (m : List α) (hm : RowsA k enc w a m)
    (hl : l.length ≤ 1000000000) (hml : m.length ≤ 1000000000) (hB : B ≤ w.heap.size) :
    ∃ b n c w', (Builtin.append_ #[t, tx] ty #[v, .slice a m.length cap]).run P w = .ok (.slice b n c) w' ∧ OwnR e k enc w' B (.slice b n c) (l ++ m) ∧ Below B w w' := by
  obtain ⟨i0, hi, hz0, hz1, hz2⟩ := info_parts hinfo
  have hs := src_rows (cap := cap) htx hk hk0 h1 hm
  have hbb : (l.length + m.length) * bytes ≤ 2000000000 * 1024 := Nat.mul_le_mul (by omega) hb0
  obtain ⟨v', w', hr, h2, h3⟩ := run_app_src (P := P) w B t tx ty e i0 z ht hi hz0 (by rw [hz1]; exact hz) (by rw [hz1]; exact hk0) v l.length (l.flatMap enc) (by rw [hz1]; exact hown) (.slice a m.length cap) m.length (m.flatMap enc) (by rw [hz1]; exact hs) (by unfold maxLen; omega) (by rw [hz2]; omega) hB
  have ho : OwnR e k enc w' B v' (l ++ m) := by
    unfold OwnR
    rw [List.length_append, List.flatMap_append, ← hz1]
    exact h2
  obtain ⟨b2, c2, e2, -, -⟩ := ho.view hk
  subst e2
  exact ⟨b2, _, c2, w', hr, ho, grown_below (Below.refl _ _) h3 (fun g hg => (own_lt hown g hg).1) hB⟩
end
end Go.Proofs.Ytcgdhankllphgaa
