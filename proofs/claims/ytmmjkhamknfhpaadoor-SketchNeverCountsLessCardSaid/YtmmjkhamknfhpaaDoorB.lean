/- Rows of integers: copied, changed in place; Fill. -/
import Derived.Test.YtmmjkhamknfhpaaDoorA
import Derived.Test.YtmmjkhamknfhpaaDoorHZ
import Derived.Test.YtmmjkhamknfhpaaDoorHV
namespace Go.Proofs.YtmmjkhamknfhpaaDoor
set_option linter.unusedVariables false
set_option linter.unusedSimpArgs false
open Go.RowKit
theorem src_ints {W : World} {a : Option Addr} {l : List Int} {cap : Nat} (h : IntsA W a l) : Src Tryd.prog 1 22 (.slice a l.length cap) l.length (l.map iv) W := by
  cases l with
  | nil =>
    cases a with
    | none => exact Src.ofNil W Tryd.underlying22 cap
    | some p => exact Src.ofSlice W Tryd.underlying22 p 0 cap [] (by simp) (fun j u hu => by simp at hu) (fun u hu => by cases hu)
  | cons x l =>
    obtain ⟨b, off, rfl, -⟩ := h 0 (by simp)
    refine Src.ofSlice W Tryd.underlying22 ⟨b, off, none⟩ (x :: l).length cap _ (by simp) (fun j u hu => ?_) (fun u hu => by obtain ⟨_, _, rfl⟩ := List.mem_map.1 hu; rfl)
    have hj : j < (x :: l).length := by
      rcases Nat.lt_or_ge j (x :: l).length with hj | hj
      · exact hj
      · rw [List.getElem?_eq_none (by simpa using hj)] at hu; cases hu
    obtain ⟨b', off', e, h1⟩ := h j hj
    injection e with e
    injection e with e1 e2
    subst e1; subst e2
    rw [show (⟨b, off, none⟩ : Addr).add j = ⟨b, off + j, none⟩ from Addr.add_mid b off j, h1]
    rw [List.getElem?_map, List.getElem?_eq_getElem hj] at hu
    rw [List.getD_eq_getElem?_getD, List.getElem?_eq_getElem hj]
    exact hu
/-- Integers are appended, wherever they come from. -/
theorem wpAppIS {ops : Array Oper} {rest : List Oper} {o : Oper} {a : Act} {Q : Exit → Act → World → Prop} {w : World} (hgd : o.guard = none) (s x : Operand) (tx : TypeId)
    (ho : o.op = .call { callee := .builtin .append, args := #[s, x], argTypes := #[22, tx] }) (B : Nat) (v : Value) (l : List Int) (hs : a.eval s = v) (hown : OwnI w B v l) (u : Value) (m : List Int) (hx : a.eval x = u)
    (hsrc : Src Tryd.prog 1 tx u m.length (m.map iv) w) (hl : l.length ≤ 1000000000) (ht : m.length ≤ 1000000000) (hB : B ≤ w.heap.size)
    (h : ∀ v' w', OwnI w' B v' (l ++ m) → Below B w w' → wpList Tryd.prog ops Q rest (a.put o.dst v') w') : wpList Tryd.prog ops Q (o :: rest) a w := by
  obtain ⟨i0, hi, hz0, hz1, hz2⟩ := info_parts infoI
  refine wpList_plain hgd fun K hK => ?_
  obtain ⟨v', w', hr, h2, h3⟩ := run_app_src (P := Tryd.prog) w B 22 tx o.type 3 i0 (.int .i64 0) Tryd.underlying22 hi hz0 (by rw [hz1]; rfl) (by rw [hz1]; decide) v l.length (l.map iv) (by rw [hz1]; exact hown) u m.length (m.map iv) (by rw [hz1]; exact hsrc) (by unfold maxLen; omega) (by rw [hz2]; omega) hB
  unfold Oper.wp execOp
  simp only [ho, resolve, invoke, builtin, Sem.run_bind, Sem.run_pure, Result.andThen_ok, List.map_toArray, List.map_cons, List.map_nil, hs, hx, hr]
  refine hK _ _ (h v' w' ?_ (grown_below (Below.refl _ _) h3 hown.lt hB))
  unfold OwnI
  rw [List.length_append, List.map_append, ← hz1]
  exact h2
/-- Block g begins with these integers, and none is frozen. -/
def RowI (W : World) (g : Nat) (l : List Int) : Prop := ∃ cs, Blk W g 3 cs ∧ ∀ k, k < l.length → cs[k]? = some (iv (l.getD k 0))
theorem RowI.lt {W : World} {g : Nat} {l : List Int} (h : RowI W g l) : g < W.heap.size := by obtain ⟨cs, h, -⟩ := h; exact h.lt
theorem RowI.cell {W : World} {g : Nat} {l : List Int} (h : RowI W g l) {k : Nat} (hk : k < l.length) : W.cell? ⟨g, k, none⟩ = some (.int .i64 (l.getD k 0)) := by obtain ⟨cs, h, h1⟩ := h; rw [h.cell]; exact h1 k hk
theorem RowI.frozen {W : World} {g : Nat} {l : List Int} (h : RowI W g l) (k : Nat) : W.frozen? ⟨g, k, none⟩ = false := by obtain ⟨cs, h, -⟩ := h; exact h.frozen k
theorem RowI.ints {W : World} {g : Nat} {l : List Int} (h : RowI W g l) : IntsA W (some ⟨g, 0, none⟩) l := fun k hk => ⟨g, 0, rfl, by rw [Nat.zero_add]; exact h.cell hk⟩
theorem RowI.set_ {W : World} {g : Nat} {l : List Int} (h : RowI W g l) (k : Nat) (x : Int) : RowI (W.setCell ⟨g, k, none⟩ (.int .i64 x)) g (l.set k x) := by
  obtain ⟨cs, h, h1⟩ := h
  refine ⟨_, h.set_ k _, fun j hj => ?_⟩
  rw [List.length_set] at hj
  have h2 := h1 j hj
  have hsz : j < cs.size := by
    rcases Nat.lt_or_ge j cs.size with h | h
    · exact h
    · rw [Array.getElem?_eq_none h] at h2; cases h2
  by_cases hjk : k = j
  · subst hjk
    rw [Array.getElem?_setIfInBounds_self_of_lt hsz, List.getD_eq_getElem?_getD, List.getElem?_set_self hj]
    rfl
  · rw [Array.getElem?_setIfInBounds_ne hjk, h2, List.getD_eq_getElem?_getD, List.getD_eq_getElem?_getD, List.getElem?_set_ne hjk]
theorem RowI.far {W : World} {g : Nat} {l : List Int} (h : RowI W g l) {p : Addr} (hp : g ≠ p.block) (u : Value) : RowI (W.setCell p u) g l := by obtain ⟨cs, h, h1⟩ := h; exact ⟨cs, h.far hp u, h1⟩
theorem RowI.alloc {W : World} {g : Nat} {l : List Int} (h : RowI W g l) (o : Obj) : RowI (W.alloc o) g l := by obtain ⟨cs, h, h1⟩ := h; exact ⟨cs, h.alloc o, h1⟩
theorem RowI.drew {W : World} {g : Nat} {l : List Int} (h : RowI W g l) : RowI W.drew g l := h
theorem RowI.drewN {W : World} {g : Nat} {l : List Int} (h : RowI W g l) (n : Nat) : RowI (W.drewN n) g l := h
theorem RowI.below {W W' : World} {g B : Nat} {l : List Int} (h : RowI W g l) (hb : Below B W W') (hg : g < B) : RowI W' g l := by obtain ⟨cs, h, h1⟩ := h; exact ⟨cs, h.below hb hg, h1⟩
theorem RowI.rowfar {W : World} {g g' : Nat} {l : List Int} (h : RowI W g l) (hne : g ≠ g') (cs' : Array Value) : RowI (W.setRow g' cs') g l := by obtain ⟨cs, h, h1⟩ := h; exact ⟨cs, h.rowfar hne cs', h1⟩
theorem OwnI.row {W : World} {B : Nat} {v : Value} {l : List Int} (h : OwnI W B v l) (hl : 0 < l.length) : ∃ g cap, v = .slice (some ⟨g, 0, none⟩) l.length cap ∧ B ≤ g ∧ l.length ≤ cap ∧ RowI W g l := by
  have hx := h.1
  rcases h.2 with ⟨rfl, h1⟩ | ⟨g, cap, cur, rfl, hbg, hg, hnc, hcm, hcs, htake⟩
  · rw [h1] at hx; simp at hx; omega
  · refine ⟨g, cap, rfl, hbg, hnc, cur, hg, fun k hk => ?_⟩
    have := congrArg (fun m : List Value => m[k]?) htake
    simp only [Nat.mul_one, List.getElem?_take, if_pos hk, List.getElem?_map] at this
    rw [List.getElem?_eq_getElem hk] at this
    rw [← Array.getElem?_toList, this, List.getD_eq_getElem?_getD, List.getElem?_eq_getElem hk]
    rfl
theorem OwnI.below {W W' : World} {B : Nat} {v : Value} {l : List Int} (h : OwnI W B v l) (hb : Below W.heap.size W W') : OwnI W' B v l := own_below h hb
set_option maxHeartbeats 400000 in
theorem copied_any (a : Option Addr) (cap : Nat) (l : List Int) (w : World) (hp : IntsA w a l) (hm : l.length ≤ 1000000) : Calls Tryd.prog 35 #[.slice a l.length cap] w fun e w' => ∃ v, e = .returned v ∧ OwnI w' w.heap.size v l ∧ Below w.heap.size w w' := by
  have SR := Lib.hid (src_ints (cap := cap) hp)
  obtain ⟨N, hN⟩ : ∃ N, l.length = N := ⟨_, rfl⟩
  have HE := Lib.hid hN
  rw [hN] at SR hm ⊢
  have HM := Lib.hid hm
  clear hp hN
  go_enter Tryd.func35, Tryd.ntmps35
  go_wp2_with (at_builtin; refine wpAppIS rfl _ _ 22 rfl w.heap.size _ _ rfl (OwnI.nil w w.heap.size) _ l rfl (by rw [HE.out]; exact SR.out) (by simp) (by rw [HE.out]; have := HM.out; omega) (Nat.le_refl _) ?_)
  intro v w1 ho hb1
  have O1 := Lib.hid (show OwnI w1 w.heap.size v l from ho)
  have B1 := Lib.hid hb1
  clear ho hb1
  go_wp2
  go_ret
  exact ⟨_, rfl, O1.out, B1.out⟩
theorem fill_take (l : List Int) (k : Nat) (h : k < l.length) : fill (l.take (k + 1)) = fill (l.take k) + (if l.getD k 0 = 0 then 0 else 1) := by
  induction l generalizing k with
  | nil => simp at h
  | cons x l ih =>
    cases k with
    | zero => simp [fill]
    | succ k =>
      have := ih k (by simpa using h)
      simp only [List.take_succ_cons, fill]
      rw [this]
      simp only [List.getD_cons_succ]
      omega
theorem fill_le : ∀ l : List Int, fill l ≤ l.length
  | [] => Nat.le_refl _
  | x :: l => by have := fill_le l; simp only [fill, List.length_cons]; split <;> omega
set_option maxHeartbeats 400000 in
theorem fill_any (W S A : Int) (a : Option Addr) (cap : Nat) (l : List Int) (w : World) (hp : IntsA w a l) (hm : l.length ≤ 1000000) :
    Calls Tryd.prog 17 #[.agg #[.int .i64 W, .int .i64 S, .int .i64 A, .slice a l.length cap]] w fun e w' => e = .returned (.int .i64 (fill l : Int)) ∧ Below w.heap.size w w' := by
  obtain ⟨n, hn⟩ : ∃ n, l.length = n := ⟨_, rfl⟩
  have HE := Lib.hid hn; have HP := Lib.hid hp
  rw [hn] at hm ⊢
  clear hp hn
  go_enter Tryd.func17, Tryd.ntmps17
  go_wp2
  go_loopw [3, 5, 9] (fun u3 _ u9 wr => ∃ k f : Nat, k ≤ n ∧ u9 = .int .i64 k ∧ u3 = .int .i64 f ∧ f ≤ k ∧ Hid (fill (l.take k) = f) ∧ Hid (Below w.heap.size w wr)) (fun _ _ u9 _ => n - (intOf u9).toNat)
  case atStart => exact ⟨0, 0, by omega, rfl, rfl, by omega, Lib.hid rfl, Lib.hid (by (repeat' (first | (with_reducible exact Below.refl _ _) | (with_reducible assumption) | (with_reducible refine Below.alloc ?_ ?_ _) | (with_reducible refine Below.drew ?_) | (with_reducible refine below_dn ?_) | (with_reducible refine Below.setCell ?_ ?_ _) | (with_reducible exact Nat.le_refl _) | omega | (simp only [World.size_alloc, World.size_setCell, World.size_drew]; omega) | (simp; omega) | (simp; done))))⟩
  case round =>
    obtain ⟨k, f, hk, rfl, rfl, hfk, hf, hbe⟩ := hrel
    by_cases hlt : k < n
    · obtain ⟨b, off, rfl, q1⟩ := (HP.out.mono hbe.out) k (by rw [HE.out]; exact hlt)
      have ht := fill_take l k (by rw [HE.out]; exact hlt)
      rw [hf.out] at ht
      obtain ⟨x, hx⟩ : ∃ x, l.getD k 0 = x := ⟨_, rfl⟩
      rw [hx] at q1 ht
      by_cases h0 : x = 0
      · have t1 : (x != 0) = false := by rw [h0]; rfl
        rw [if_pos h0] at ht
        have HT := Lib.hid ht
        clear hx ht h0
        go_wp2
        go_roundw
        case rel => exact ⟨k + 1, f, by omega, by go_num, rfl, by omega, HT, hbe⟩
        case measure => simp [intOf]; omega
      · have t1 : (x != 0) = true := bne_iff_ne.2 h0
        rw [if_neg h0] at ht
        have HT := Lib.hid ht
        clear hx ht h0
        go_wp2
        go_roundw
        case rel => exact ⟨k + 1, f + 1, by omega, by go_num, by go_num, by omega, HT, hbe⟩
        case measure => simp [intOf]; omega
    · have hf' := hf.out
      rw [List.take_of_length_le (by rw [HE.out]; omega)] at hf'
      have HF := Lib.hid hf'
      clear hf'
      go_wp2
      go_ret
      exact ⟨by rw [HF.out]; rfl, hbe.out⟩
end Go.Proofs.YtmmjkhamknfhpaaDoor
