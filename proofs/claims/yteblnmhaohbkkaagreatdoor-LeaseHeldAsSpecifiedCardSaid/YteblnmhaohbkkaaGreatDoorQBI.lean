/- Rows of integers. -/
import Derived.Test.YteblnmhaohbkkaaGreatDoorQBA
namespace Go.Proofs.YteblnmhaohbkkaaGreatDoor
set_option linter.unusedVariables false
set_option linter.unusedSimpArgs false
open Go.RowKit
def IntsA (W : World) (a : Option Addr) (l : List Int) : Prop := ∀ k, k < l.length → ∃ b off, a = some ⟨b, off, none⟩ ∧ W.cell? ⟨b, off + k, none⟩ = some (.int .i64 (l.getD k 0))
theorem IntsA.mono {W W' : World} {a : Option Addr} {l : List Int} (h : IntsA W a l) (hb : Below W.heap.size W W') : IntsA W' a l := by
  intro k hk
  obtain ⟨b, off, e, h1⟩ := h k hk
  exact ⟨b, off, e, keep h1 hb⟩
def iv (x : Int) : Value := .int .i64 x
/-- A row of integers of the call's own, from block B on. -/
def OwnI (W : World) (B : Nat) (v : Value) (l : List Int) : Prop := W.ownsRow B 3 1 v l.length (l.map iv)
theorem OwnI.nil (W : World) (B : Nat) : OwnI W B (.slice none 0 0) [] := World.ownsRow_nil W B 3 1
theorem infoI : (Tryz.prog.info? 3).map (fun i => (i.zero, i.size, i.bytes)) = some (some (.int .i64 0), 1, 8) := by kernel_rfl
theorem OwnI.lt {w : World} {B : Nat} {v : Value} {l : List Int} (h : OwnI w B v l) : ∀ k, v.ownBlock = some k → B ≤ k := fun k hk => (own_lt h k hk).1
theorem wpAppI {ops : Array Oper} {rest : List Oper} {o : Oper} {a : Act} {Q : Exit → Act → World → Prop} {w : World} (hgd : o.guard = none) (s x : Operand)
    (ho : o.op = .call { callee := .builtin .append, args := #[s, x], argTypes := #[64, 64] }) (B : Nat) (v : Value) (l : List Int) (hs : a.eval s = v) (hown : OwnI w B v l) (y : Int) (u : Value) (hu : u = iv y)
    (hx : a.eval x = .slice (some ⟨w.heap.size, 0, none⟩) 1 1) (hl : l.length ≤ 1000000000) (hB : B ≤ w.heap.size)
    (h : ∀ v' w', OwnI w' B v' (l ++ [y]) → Below B w w' → wpList Tryz.prog ops Q rest (a.put o.dst v') w') : wpList Tryz.prog ops Q (o :: rest) a (w.alloc (.cells #[u] 3)) := by
  obtain ⟨i0, hi, hz0, hz1, hz2⟩ := info_parts infoI
  subst hu
  refine wpList_append_own _ hgd s x 64 ho B 3 i0 (.int .i64 0) 1 8 Tryz.underlying64 hi hz0 hz1 hz2 rfl (by decide) v l.length (l.map iv) hs (own_alloc hown _) ⟨w.heap.size, 0, none⟩ 1 1 [iv y] hx rfl (cell_one_new _ _ _) (by simp [iv, Value.oneCell']) (by unfold maxLen; omega) (by omega) (by simp; omega) ?_
  intro v' w' h1 h2 _
  refine h v' w' ?_ (grown_below ((Below.refl _ _).alloc hB _) h2 hown.lt (by simp; omega))
  unfold OwnI
  rw [List.length_append, List.map_append]
  exact h1
theorem OwnI.view {W : World} {B : Nat} {v : Value} {l : List Int} (h : OwnI W B v l) : ∃ a cap, v = .slice a l.length cap ∧ l.length ≤ cap ∧ IntsA W a l := by
  obtain ⟨a, cap, rfl, hc, h1⟩ := own_view h
  refine ⟨a, cap, rfl, hc, fun k hk => ?_⟩
  obtain ⟨g, rfl, h2⟩ := h1 k (by omega)
  exact ⟨g, 0, rfl, by rw [Nat.zero_add]; exact h2 _ (map_at iv l 0 k hk)⟩
theorem src_ints {W : World} {a : Option Addr} {l : List Int} {cap : Nat} (h : IntsA W a l) : Src Tryz.prog 1 64 (.slice a l.length cap) l.length (l.map iv) W := by
  cases l with
  | nil =>
    cases a with
    | none => exact Src.ofNil W Tryz.underlying64 cap
    | some p => exact Src.ofSlice W Tryz.underlying64 p 0 cap [] (by simp) (fun j u hu => by simp at hu) (fun u hu => by cases hu)
  | cons x l =>
    obtain ⟨b, off, rfl, -⟩ := h 0 (by simp)
    refine Src.ofSlice W Tryz.underlying64 ⟨b, off, none⟩ (x :: l).length cap _ (by simp) (fun j u hu => ?_) (fun u hu => by obtain ⟨_, _, rfl⟩ := List.mem_map.1 hu; rfl)
    have hj : j < (x :: l).length := by
      rcases Nat.lt_or_ge j (x :: l).length with hj | hj
      · exact hj
      · rw [List.getElem?_eq_none (by simpa using hj)] at hu; cases hu
    obtain ⟨b', off', e, h1⟩ := h j hj
    injection e with e
    injection e with e1 e2
    subst e1; subst e2
    rw [show (⟨b, off, none⟩ : Addr).add j = ⟨b, off + j, none⟩ from Addr.add_mid b off j, h1]
    rw [List.getElem?_map, List.getElem?_eq_getElem hj] at hu
    rw [List.getD_eq_getElem?_getD, List.getElem?_eq_getElem hj]
    exact hu
/-- Integers are appended, wherever they come from. -/
theorem wpAppIS {ops : Array Oper} {rest : List Oper} {o : Oper} {a : Act} {Q : Exit → Act → World → Prop} {w : World} (hgd : o.guard = none) (s x : Operand) (tx : TypeId)
    (ho : o.op = .call { callee := .builtin .append, args := #[s, x], argTypes := #[64, tx] }) (B : Nat) (v : Value) (l : List Int) (hs : a.eval s = v) (hown : OwnI w B v l) (u : Value) (m : List Int) (hx : a.eval x = u)
    (hsrc : Src Tryz.prog 1 tx u m.length (m.map iv) w) (hl : l.length ≤ 1000000000) (ht : m.length ≤ 1000000000) (hB : B ≤ w.heap.size)
    (h : ∀ v' w', OwnI w' B v' (l ++ m) → Below B w w' → wpList Tryz.prog ops Q rest (a.put o.dst v') w') : wpList Tryz.prog ops Q (o :: rest) a w := by
  obtain ⟨i0, hi, hz0, hz1, hz2⟩ := info_parts infoI
  refine wpList_plain hgd fun K hK => ?_
  obtain ⟨v', w', hr, h2, h3⟩ := run_app_src (P := Tryz.prog) w B 64 tx o.type 3 i0 (.int .i64 0) Tryz.underlying64 hi hz0 (by rw [hz1]; rfl) (by rw [hz1]; decide) v l.length (l.map iv) (by rw [hz1]; exact hown) u m.length (m.map iv) (by rw [hz1]; exact hsrc) (by unfold maxLen; omega) (by rw [hz2]; omega) hB
  unfold Oper.wp execOp
  simp only [ho, resolve, invoke, builtin, Sem.run_bind, Sem.run_pure, Result.andThen_ok, List.map_toArray, List.map_cons, List.map_nil, hs, hx, hr]
  refine hK _ _ (h v' w' ?_ (grown_below (Below.refl _ _) h3 hown.lt hB))
  unfold OwnI
  rw [List.length_append, List.map_append, ← hz1]
  exact h2
/-- Block g begins with these integers, and none is frozen. -/
def RowI (W : World) (g : Nat) (l : List Int) : Prop := ∃ cs, Blk W g 3 cs ∧ ∀ k, k < l.length → cs[k]? = some (iv (l.getD k 0))
theorem RowI.lt {W : World} {g : Nat} {l : List Int} (h : RowI W g l) : g < W.heap.size := by obtain ⟨cs, h, -⟩ := h; exact h.lt
theorem RowI.cell {W : World} {g : Nat} {l : List Int} (h : RowI W g l) {k : Nat} (hk : k < l.length) : W.cell? ⟨g, k, none⟩ = some (.int .i64 (l.getD k 0)) := by obtain ⟨cs, h, h1⟩ := h; rw [h.cell]; exact h1 k hk
theorem RowI.frozen {W : World} {g : Nat} {l : List Int} (h : RowI W g l) (k : Nat) : W.frozen? ⟨g, k, none⟩ = false := by obtain ⟨cs, h, -⟩ := h; exact h.frozen k
theorem RowI.ints {W : World} {g : Nat} {l : List Int} (h : RowI W g l) : IntsA W (some ⟨g, 0, none⟩) l := fun k hk => ⟨g, 0, rfl, by rw [Nat.zero_add]; exact h.cell hk⟩
theorem RowI.set_ {W : World} {g : Nat} {l : List Int} (h : RowI W g l) (k : Nat) (x : Int) : RowI (W.setCell ⟨g, k, none⟩ (.int .i64 x)) g (l.set k x) := by
  obtain ⟨cs, h, h1⟩ := h
  refine ⟨_, h.set_ k _, fun j hj => ?_⟩
  rw [List.length_set] at hj
  have h2 := h1 j hj
  have hsz : j < cs.size := by
    rcases Nat.lt_or_ge j cs.size with h | h
    · exact h
    · rw [Array.getElem?_eq_none h] at h2; cases h2
  by_cases hjk : k = j
  · subst hjk
    rw [Array.getElem?_setIfInBounds_self_of_lt hsz, List.getD_eq_getElem?_getD, List.getElem?_set_self hj]
    rfl
  · rw [Array.getElem?_setIfInBounds_ne hjk, h2, List.getD_eq_getElem?_getD, List.getD_eq_getElem?_getD, List.getElem?_set_ne hjk]
theorem RowI.far {W : World} {g : Nat} {l : List Int} (h : RowI W g l) {p : Addr} (hp : g ≠ p.block) (u : Value) : RowI (W.setCell p u) g l := by obtain ⟨cs, h, h1⟩ := h; exact ⟨cs, h.far hp u, h1⟩
theorem RowI.alloc {W : World} {g : Nat} {l : List Int} (h : RowI W g l) (o : Obj) : RowI (W.alloc o) g l := by obtain ⟨cs, h, h1⟩ := h; exact ⟨cs, h.alloc o, h1⟩
theorem RowI.drew {W : World} {g : Nat} {l : List Int} (h : RowI W g l) : RowI W.drew g l := h
theorem RowI.drewN {W : World} {g : Nat} {l : List Int} (h : RowI W g l) (n : Nat) : RowI (W.drewN n) g l := h
theorem RowI.below {W W' : World} {g B : Nat} {l : List Int} (h : RowI W g l) (hb : Below B W W') (hg : g < B) : RowI W' g l := by obtain ⟨cs, h, h1⟩ := h; exact ⟨cs, h.below hb hg, h1⟩
theorem RowI.rowfar {W : World} {g g' : Nat} {l : List Int} (h : RowI W g l) (hne : g ≠ g') (cs' : Array Value) : RowI (W.setRow g' cs') g l := by obtain ⟨cs, h, h1⟩ := h; exact ⟨cs, h.rowfar hne cs', h1⟩
theorem OwnI.row {W : World} {B : Nat} {v : Value} {l : List Int} (h : OwnI W B v l) (hl : 0 < l.length) : ∃ g cap, v = .slice (some ⟨g, 0, none⟩) l.length cap ∧ B ≤ g ∧ l.length ≤ cap ∧ RowI W g l := by
  have hx := h.1
  rcases h.2 with ⟨rfl, h1⟩ | ⟨g, cap, cur, rfl, hbg, hg, hnc, hcm, hcs, htake⟩
  · rw [h1] at hx; simp at hx; omega
  · refine ⟨g, cap, rfl, hbg, hnc, cur, hg, fun k hk => ?_⟩
    have := congrArg (fun m : List Value => m[k]?) htake
    simp only [Nat.mul_one, List.getElem?_take, if_pos hk, List.getElem?_map] at this
    rw [List.getElem?_eq_getElem hk] at this
    rw [← Array.getElem?_toList, this, List.getD_eq_getElem?_getD, List.getElem?_eq_getElem hk]
    rfl
theorem OwnI.below {W W' : World} {B : Nat} {v : Value} {l : List Int} (h : OwnI W B v l) (hb : Below W.heap.size W W') : OwnI W' B v l := own_below h hb
theorem own_empty {W : World} {g : Nat} (h : W.heap[g]? = some (.cells #[] 3 (0, 0))) : OwnI W g (.slice (some ⟨g, 0, none⟩) 0 0) [] :=
  ⟨rfl, Or.inr ⟨g, 0, #[], rfl, Nat.le_refl _, h, Nat.le_refl _, Nat.zero_le _, rfl, rfl⟩⟩
theorem run_appE (a : Option Addr) (cap : Nat) (l : List Int) (X : World) (hp : IntsA X a l) (hm : l.length ≤ 1000000) (g : Nat) (h : X.heap[g]? = some (.cells #[] 3 (0, 0))) :
    ∃ b n c w', (Builtin.append_ #[64, 64] 64 #[.slice (some ⟨g, 0, none⟩) 0 0, .slice a l.length cap]).run Tryz.prog X = .ok (.slice b n c) w' ∧ OwnI w' g (.slice b n c) l ∧ Below g X w' := by
  obtain ⟨i0, hi, hz0, hz1, hz2⟩ := info_parts infoI
  have hg : g < X.heap.size := (Array.getElem?_eq_some_iff.1 h).1
  have hown := own_empty h
  obtain ⟨v', w', hr, h2, h3⟩ := run_app_src (P := Tryz.prog) X g 64 64 64 3 i0 (.int .i64 0) Tryz.underlying64 hi hz0 (by rw [hz1]; rfl) (by rw [hz1]; decide) _ 0 [] (by rw [hz1]; exact hown) (.slice a l.length cap) l.length (l.map iv) (by rw [hz1]; exact src_ints hp) (by unfold maxLen; omega) (by rw [hz2]; omega) (by omega)
  have ho : OwnI w' g v' l := by
    unfold OwnI
    rw [← hz1]
    simpa using h2
  obtain ⟨b2, c2, e, -, -⟩ := ho.view
  subst e
  exact ⟨b2, _, c2, w', hr, ho, grown_below (Below.refl _ _) h3 hown.lt (by omega)⟩
/-- One integer is appended to a row of the call's own: the run. -/
theorem run_appI (w : World) (B : Nat) (v : Value) (l : List Int) (y : Int) (hown : OwnI w B v l) (hl : l.length ≤ 1000000000) (hB : B ≤ w.heap.size) :
    ∃ b n c w', (Builtin.append_ #[64, 64] 64 #[v, .slice (some ⟨w.heap.size, 0, none⟩) 1 1]).run Tryz.prog (w.alloc (.cells #[.int .i64 y] 3)) = .ok (.slice b n c) w' ∧ OwnI w' B (.slice b n c) (l ++ [y]) ∧ Below B w w' := by
  obtain ⟨i0, hi, hz0, hz1, hz2⟩ := info_parts infoI
  have hs : Src Tryz.prog 1 64 (.slice (some ⟨w.heap.size, 0, none⟩) 1 1) [y].length ([y].map iv) (w.alloc (.cells #[.int .i64 y] 3)) :=
    src_ints (a := some ⟨w.heap.size, 0, none⟩) (cap := 1) (l := [y]) (fun k hk => by
      have : k = 0 := by simpa using hk
      subst this
      exact ⟨w.heap.size, 0, rfl, by simp [go_sem]⟩)
  obtain ⟨v', w', hr, h2, h3⟩ := run_app_src (P := Tryz.prog) (w.alloc (.cells #[.int .i64 y] 3)) B 64 64 64 3 i0 (.int .i64 0) Tryz.underlying64 hi hz0 (by rw [hz1]; rfl) (by rw [hz1]; decide) v l.length (l.map iv) (by rw [hz1]; exact own_alloc hown _) (.slice (some ⟨w.heap.size, 0, none⟩) 1 1) [y].length ([y].map iv) (by rw [hz1]; exact hs) (by unfold maxLen; simp; omega) (by rw [hz2]; simp; omega) (by simp; omega)
  have ho : OwnI w' B v' (l ++ [y]) := by
    unfold OwnI
    rw [List.length_append, List.map_append, ← hz1]
    exact h2
  obtain ⟨b2, c2, e, -, -⟩ := ho.view
  subst e
  exact ⟨b2, _, c2, w', hr, ho, grown_below ((Below.refl _ _).alloc hB _) h3 hown.lt (by simp; omega)⟩
theorem OwnI.far {W : World} {B : Nat} {v : Value} {l : List Int} (h : OwnI W B v l) {p : Addr} (hp : p.block < B) (u : Value) : OwnI (W.setCell p u) B v l :=
  own_keep h fun k h1 h2 => Below.heap_setCell W p u k (by omega)
theorem OwnI.drewN {W : World} {B n : Nat} {v : Value} {l : List Int} (h : OwnI W B v l) : OwnI (W.drewN n) B v l := own_draw h
theorem OwnI.drew {W : World} {B : Nat} {v : Value} {l : List Int} (h : OwnI W B v l) : OwnI W.drew B v l := own_keep h fun _ _ _ => rfl
theorem OwnI.rowfar {W : World} {B g : Nat} {v : Value} {l : List Int} (h : OwnI W B v l) (hg : g < B) (cs : Array Value) : OwnI (W.setRow g cs) B v l := own_keep h fun k h1 h2 => setRow_other W g k cs (by omega)
theorem run_mk (n : Nat) (hn : n ≤ 1000000) (X : World) : (Instr.makeSlice 64 (.int .i64 (n : Int)) (.int .i64 (n : Int))).run Tryz.prog X = .ok (.slice (some ⟨X.heap.size, 0, none⟩) n n) (X.alloc (.cells (madeCells #[.int .i64 0] n) 3)) := by
  obtain ⟨i, hi, hzz⟩ := Option.map_eq_some_iff.1 infoI
  simp only [Prod.mk.injEq] at hzz
  obtain ⟨hz, hs, hb⟩ := hzz
  have := run_make (P := Tryz.prog) X 64 3 i _ Tryz.underlying64 hi hz .i64 .i64 n n (by omega) (by omega) (by rw [hb]; omega) (by omega)
  simpa [hs, Value.cells] using this
theorem made_row (n : Nat) (X : World) : RowI (X.alloc (.cells (madeCells #[.int .i64 0] n) 3)) X.heap.size (List.replicate n 0) := by
  refine ⟨_, heap_alloc_new X _, fun k hk => ?_⟩
  rw [List.length_replicate] at hk
  have e : (List.replicate n (0 : Int)).getD k 0 = 0 := by rw [List.getD_eq_getElem?_getD, List.getElem?_replicate]; split <;> rfl
  rw [e, ← Array.getElem?_toList, toList_madeCells_one, List.getElem?_replicate, if_pos hk]
  rfl
theorem made_row' {n g : Nat} {X : World} (h : X.heap.size = g) : RowI (X.alloc (.cells (madeCells #[.int .i64 0] n) 3)) g (List.replicate n 0) := by subst h; exact made_row n X
end Go.Proofs.YteblnmhaohbkkaaGreatDoor
