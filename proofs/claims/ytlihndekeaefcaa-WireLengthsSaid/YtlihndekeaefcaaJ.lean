/- Rows of the call's own as slices in memory; comparisons. -/
import Derived.Test.YtlihndekeaefcaaI
import Derived.ChangeKeysEq
namespace Go.Proofs.Ytlihndekeaefcaa
set_option linter.unusedVariables false
set_option linter.unusedSimpArgs false
open Go.RowKit
theorem own_view {W : World} {B e size n : Nat} {v : Value} {xs : List Value} (h : W.ownsRow B e size v n xs) :
    ∃ (a : Option Addr) (cap : Nat), v = .slice a n cap ∧ n ≤ cap ∧ ∀ j, j < n * size → ∃ g, a = some ⟨g, 0, none⟩ ∧ ∀ u, xs[j]? = some u → W.cell? ⟨g, j, none⟩ = some u := by
  have h0 := h
  rcases h.2 with ⟨rfl, h1⟩ | ⟨g, cap, cur, rfl, hbg, hg, hnc, hcm, hcs, htake⟩
  · subst h1
    exact ⟨none, 0, rfl, Nat.le_refl _, fun j hj => absurd hj (by simp)⟩
  · refine ⟨some ⟨g, 0, none⟩, cap, rfl, hnc, fun j hj => ⟨g, rfl, fun u hu => ?_⟩⟩
    have := h0.cells (g := g) rfl j u hu
    rwa [add_off, Nat.zero_add] at this
theorem map_at {α : Type} (f : α → Value) (l : List α) (d : α) (j : Nat) (h : j < l.length) : (l.map f)[j]? = some (f (l.getD j d)) := by
  simp [List.getD_eq_getElem?_getD, List.getElem?_eq_getElem h]
theorem OwnB.view {W : World} {B : Nat} {v : Value} {l : List Nat} (h : OwnB W B v l) (hb : ∀ x ∈ l, x < 256) : ∃ a cap, v = .slice a l.length cap ∧ l.length ≤ cap ∧ BytesA W a l := by
  obtain ⟨a, cap, rfl, hc, h1⟩ := own_view h
  refine ⟨a, cap, rfl, hc, fun k hk => ?_⟩
  obtain ⟨g, rfl, h2⟩ := h1 k (by omega)
  refine ⟨g, 0, rfl, by rw [Nat.zero_add]; exact h2 _ (map_at bv l 0 k hk), ?_⟩
  rw [getD_at 0 hk]
  exact hb _ (List.getElem_mem _)
theorem OwnI.view {W : World} {B : Nat} {v : Value} {l : List Int} (h : OwnI W B v l) (hb : ∀ x ∈ l, -9223372036854775808 ≤ x ∧ x ≤ 9223372036854775807) : ∃ a cap, v = .slice a l.length cap ∧ l.length ≤ cap ∧ IntsA W a l := by
  obtain ⟨a, cap, rfl, hc, h1⟩ := own_view h
  refine ⟨a, cap, rfl, hc, fun k hk => ?_⟩
  obtain ⟨g, rfl, h2⟩ := h1 k (by omega)
  refine ⟨g, 0, rfl, by rw [Nat.zero_add]; exact h2 _ (map_at (Value.int .i64) l 0 k hk), ?_⟩
  rw [getD_at 0 hk]
  exact hb _ (List.getElem_mem _)
theorem OwnS.view {W : World} {B : Nat} {v : Value} {l : List ByteArray} (h : OwnS W B v l) : ∃ a cap, v = .slice a l.length cap ∧ l.length ≤ cap ∧ StrsA W a l := by
  obtain ⟨a, cap, rfl, hc, h1⟩ := own_view h
  refine ⟨a, cap, rfl, hc, fun k hk => ?_⟩
  obtain ⟨g, rfl, h2⟩ := h1 k (by omega)
  exact ⟨g, 0, rfl, by rw [Nat.zero_add]; exact h2 _ (map_at Value.string l ByteArray.empty k hk)⟩
theorem dcs_at : ∀ (l : List (List Nat)) (k j : Nat), (∀ d ∈ l, d.length = 16) → k < l.length → j < 16 → (dcs l)[k * 16 + j]? = some (bv ((l.getD k []).getD j 0))
  | [], k, j, _, hk, _ => absurd hk (by simp)
  | d :: l, 0, j, hd, _, hj => by
    have e := hd d (by simp)
    unfold dcs
    rw [List.flatMap_cons, Nat.zero_mul, Nat.zero_add, List.getElem?_append_left (by rw [List.length_map]; omega)]
    exact map_at bv d 0 j (by omega)
  | d :: l, k + 1, j, hd, hk, hj => by
    have e := hd d (by simp)
    have := dcs_at l k j (fun x hx => hd x (by simp [hx])) (by simpa using hk) hj
    unfold dcs at this ⊢
    rw [List.flatMap_cons, List.getElem?_append_right (by rw [List.length_map]; omega), List.length_map, e, show (k + 1) * 16 + j - 16 = k * 16 + j by omega, this]
    rfl
theorem OwnG.view {W : World} {B : Nat} {v : Value} {l : List (List Nat)} (h : OwnG W B v l) (hd : ∀ d ∈ l, d.length = 16) (hb : ∀ d ∈ l, ∀ x ∈ d, x < 256) : ∃ a cap, v = .slice a l.length cap ∧ l.length ≤ cap ∧ DigsA W a l := by
  obtain ⟨a, cap, rfl, hc, h1⟩ := own_view h
  refine ⟨a, cap, rfl, hc, fun k hk => ?_⟩
  obtain ⟨g, rfl, -⟩ := h1 (k * 16) (by omega)
  have e := getD_at [] hk
  have m := List.getElem_mem hk
  refine ⟨g, 0, rfl, by rw [e]; exact hd _ m, fun j hj => ⟨?_, ?_⟩⟩
  · obtain ⟨g', e', h2⟩ := h1 (k * 16 + j) (by omega)
    simp only [Option.some.injEq, Addr.mk.injEq, and_true] at e'
    subst e'
    rw [Nat.zero_add]
    exact h2 _ (dcs_at l k j hd hk hj)
  · rw [e, getD_at 0 (by rw [hd _ m]; exact hj)]
    exact hb _ m _ (List.getElem_mem _)
theorem same_any (a b : Option Addr) (ca cb : Nat) (l m : List Nat) (w : World) (h1 : BytesA w a l) (h2 : BytesA w b m) (hl : l.length ≤ 1000000000) (hm : m.length ≤ 1000000000) :
    Calls Try.prog 13 #[.slice a l.length ca, .slice b m.length cb] w fun e w' => e = .returned (.bool (decide (l = m))) ∧ w = w' := by
  have c1 := conv_str l a ca w h1
  have c2 := conv_str m b cb w h2
  have e : ((strB l).toList == (strB m).toList) = decide (l = m) := by
    by_cases e : l = m
    · subst e; simp
    · have : (strB l).toList ≠ (strB m).toList := fun h => e (by
        rw [ByteArray.toList_eq, ByteArray.toList_eq] at h
        rw [← sb_strB l h1.lt, ← sb_strB m h2.lt, ByteArray.ext (Array.toList_inj.mp h)])
      rw [decide_eq_false e]
      exact beq_eq_false_iff_ne.2 this
  clear h1 h2
  go_enter Try.func13, Try.ntmps13
  go_wp2
  go_ret
  exact ⟨by rw [← e]; rfl, rfl⟩
theorem sameInts_yes (l : List Int) (a1 a2 : Option Addr) (cap1 cap2 : Nat) (w : World) (h1 : IntsA w a1 l) (h2 : IntsA w a2 l) (hm : l.length ≤ 1000000000) :
    Calls Try.prog 30 #[.slice a1 l.length cap1, .slice a2 l.length cap2] w fun e w' => e = .returned (.bool true) ∧ Below w.heap.size w w' := by
  have H1 := Lib.hid h1; clear h1
  have H2 := Lib.hid h2; clear h2
  go_enter Try.func30, Try.ntmps30
  go_wp2
  go_loopw [5] (fun i wr => ∃ k q : Nat, k ≤ l.length ∧ i = .int .i64 k ∧ wr = w.drewN q) (fun i _ => l.length - (intOf i).toNat)
  case atStart => exact ⟨0, 0, by omega, rfl, rfl⟩
  case round =>
    obtain ⟨k, q, hk, rfl, rfl⟩ := hrel
    by_cases hlt : k < l.length
    · obtain ⟨b1, o1, rfl, x0, -⟩ := H1.out k hlt
      obtain ⟨b2, o2, rfl, y0, -⟩ := H2.out k hlt
      obtain ⟨c, hb⟩ : ∃ b, l.getD k 0 = b := ⟨_, rfl⟩
      rw [hb] at x0 y0
      clear hb
      go_wp2
      go_quiet (fail)
      go_wp2
      go_roundw
      case rel => exact ⟨k + 1, _, by omega, by go_num, rfl⟩
      case measure => simp [intOf]; omega
    · go_wp2
      go_ret
      exact ⟨rfl, by (repeat' (first | (with_reducible exact Below.refl _ _) | (with_reducible assumption) | (with_reducible refine Below.alloc ?_ ?_ _) | (with_reducible refine Below.drew ?_) | (with_reducible refine below_dn ?_) | (with_reducible refine Below.setCell ?_ ?_ _) | (with_reducible exact Nat.le_refl _) | omega | (simp only [World.size_alloc, World.size_setCell, World.size_drew]; omega) | (simp; omega) | (simp; done)))⟩
theorem sameTexts_yes (l : List ByteArray) (a1 a2 : Option Addr) (cap1 cap2 : Nat) (w : World) (h1 : StrsA w a1 l) (h2 : StrsA w a2 l) (hm : l.length ≤ 1000000000) :
    Calls Try.prog 33 #[.slice a1 l.length cap1, .slice a2 l.length cap2] w fun e w' => e = .returned (.bool true) ∧ Below w.heap.size w w' := by
  have H1 := Lib.hid h1; clear h1
  have H2 := Lib.hid h2; clear h2
  go_enter Try.func33, Try.ntmps33
  go_wp2
  go_loopw [5] (fun i wr => ∃ k q : Nat, k ≤ l.length ∧ i = .int .i64 k ∧ wr = w.drewN q) (fun i _ => l.length - (intOf i).toNat)
  case atStart => exact ⟨0, 0, by omega, rfl, rfl⟩
  case round =>
    obtain ⟨k, q, hk, rfl, rfl⟩ := hrel
    by_cases hlt : k < l.length
    · obtain ⟨b1, o1, rfl, x0⟩ := H1.out k hlt
      obtain ⟨b2, o2, rfl, y0⟩ := H2.out k hlt
      obtain ⟨c, hb⟩ : ∃ b, l.getD k ByteArray.empty = b := ⟨_, rfl⟩
      rw [hb] at x0 y0
      clear hb
      go_wp2
      go_quiet (fail)
      go_wp2
      go_roundw
      case rel => exact ⟨k + 1, _, by omega, by go_num, rfl⟩
      case measure => simp [intOf]; omega
    · go_wp2
      go_ret
      exact ⟨rfl, by (repeat' (first | (with_reducible exact Below.refl _ _) | (with_reducible assumption) | (with_reducible refine Below.alloc ?_ ?_ _) | (with_reducible refine Below.drew ?_) | (with_reducible refine below_dn ?_) | (with_reducible refine Below.setCell ?_ ?_ _) | (with_reducible exact Nat.le_refl _) | omega | (simp only [World.size_alloc, World.size_setCell, World.size_drew]; omega) | (simp; omega) | (simp; done)))⟩
theorem eqItems_same (d : Nat) (xs : List Nat) (W : World) (hx : xs.length = 16) : ∀ is : List Nat, (∀ i ∈ is, i < 16) → (Op.eqItems (d + 1) 5 (Try.prog.cellsOf 5) (dca xs) (dca xs) is).run Try.prog W = .ok true W
  | [], _ => by simp [Op.eqItems]
  | i :: is, h => by
    have hi := h i (by simp)
    have ih := eqItems_same d xs W hx is (fun j hj => h j (by simp [hj]))
    have e1 : Try.prog.cellsOf 5 = 1 := by kernel_rfl
    have ha := dca_at xs i (by omega)
    have hp : (part 5 (dca xs) (i * Try.prog.cellsOf 5)).run Try.prog W = .ok (bv (xs.getD i 0)) W := by
      rw [e1, Nat.mul_one]
      have h2 : (isAgg 5).run Try.prog W = .ok false W := by kernel_rfl
      simp [part, h2, ha]
    simp only [Op.eqItems, Sem.run_bind, hp, Result.andThen_ok]
    have h3 : (Op.equalIn (d + 1) 5 (bv (xs.getD i 0)) (bv (xs.getD i 0))).run Try.prog W = .ok true W := by
      have := run_equalIn_int (P := Try.prog) W d 5 .u8 .u8 ((xs.getD i 0 : Nat) : Int) ((xs.getD i 0 : Nat) : Int) Try.underlying5
      rw [beq_self_eq_true] at this
      exact this
    simp only [h3, Result.andThen_ok]
    simpa using ih
theorem equal_dig (xs : List Nat) (C : Array Value) (hC : dca xs = C) (hx : xs.length = 16) (W : World) : (Op.equal 57 (.agg C) (.agg C)).run Try.prog W = .ok true W := by
  subst hC
  obtain ⟨i, hi⟩ : ∃ i, Try.prog.info? 5 = some i := by
    obtain ⟨i0, hi, -⟩ := info_parts infoB
    exact ⟨_, hi⟩
  show (Op.equalIn (9999 + 1) 57 (.agg (dca xs)) (.agg (dca xs))).run Try.prog W = _
  rw [run_equalIn_array W 9999 (n := 16) (dca xs) (dca xs) Try.underlying57 hi]
  exact eqItems_same 9998 xs W hx _ (fun i hi => by simpa using hi)
/-- A digest is read in a region that draws its order. -/
theorem quiet_loadD {C : World → Prop} {a : Act} {o : Oper} {K : Act → Prop} (x : Operand) (p : Addr) (X : Array Value) (h : o.op = .load 57 x) (hx : a.eval x = .pointer (some p)) (hl : ∀ w, C w → (loadVar 57 p).run Try.prog w = .ok (.agg X) w) (hk : K (a.put o.dst (.agg X))) : o.quiet Try.prog a C K :=
  ⟨_, fun w hw => by
    unfold Oper.quietAt execOp
    simp only [h, hx, Instr.loadAt, Instr.sureAddr, Sem.run_bind, Sem.run_pure, Result.andThen_ok, hl w hw]
    exact ⟨rfl, rfl⟩, hk⟩
theorem quiet_neqD {D : World → Prop} {a : Act} {o : Oper} {K : Act → Prop} (x y : Operand) (X : Array Value) (h : o.op = .binOp .neq 57 x y 57) (hx : a.eval x = .agg X) (hy : a.eval y = .agg X) (hl : ∀ w, (Op.equal 57 (.agg X) (.agg X)).run Try.prog w = .ok true w) (hk : K (a.put o.dst (.bool false))) : o.quiet Try.prog a D K :=
  ⟨_, fun w hw => by
    unfold Oper.quietAt execOp
    have hg := run_eqGuard_agg (P := Try.prog) w .neq 57 x y X X (by kernel_rfl)
    simp [h, hx, hy, hg, binOp, hl w, Oper.quietUpon], hk⟩
theorem sameDigs_yes (l : List (List Nat)) (a1 a2 : Option Addr) (cap1 cap2 : Nat) (w : World) (h1 : DigsA w a1 l) (h2 : DigsA w a2 l) (hm : l.length ≤ 1000000000) :
    Calls Try.prog 36 #[.slice a1 l.length cap1, .slice a2 l.length cap2] w fun e w' => e = .returned (.bool true) ∧ Below w.heap.size w w' := by
  have H1 := Lib.hid h1; clear h1
  have H2 := Lib.hid h2; clear h2
  go_enter Try.func36, Try.ntmps36
  go_wp2
  go_loopw [5] (fun i wr => ∃ k q : Nat, k ≤ l.length ∧ i = .int .i64 k ∧ wr = w.drewN q) (fun i _ => l.length - (intOf i).toNat)
  case atStart => exact ⟨0, 0, by omega, rfl, rfl⟩
  case round =>
    obtain ⟨k, q, hk, rfl, rfl⟩ := hrel
    by_cases hlt : k < l.length
    · obtain ⟨b1, o1, rfl, x16, x0⟩ := H1.out k hlt
      obtain ⟨b2, o2, rfl, y16, y0⟩ := H2.out k hlt
      obtain ⟨x, hb⟩ : ∃ b, l.getD k [] = b := ⟨_, rfl⟩
      rw [hb] at x0 y0 x16 y16
      have ld1 := fun (W : World) (hW : ∃ n, W = w.drewN n) => load_digest x (dca x) rfl x16 W b1 (o1 + k * 16) (fun j hj => by obtain ⟨n, rfl⟩ := hW; exact (x0 j hj).1)
      have ld2 := fun (W : World) (hW : ∃ n, W = w.drewN n) => load_digest x (dca x) rfl x16 W b2 (o2 + k * 16) (fun j hj => by obtain ⟨n, rfl⟩ := hW; exact (y0 j hj).1)
      obtain ⟨C, hC⟩ : ∃ C, dca x = C := ⟨_, rfl⟩
      rw [hC] at ld1 ld2
      have heq := fun W => equal_dig x C hC x16 W
      have LD1 := Lib.hid ld1
      have LD2 := Lib.hid ld2
      clear hb hC x0 y0 x16 y16 ld1 ld2
      go_wp2
      refine wp_region_quiet_lit (by kernel_rfl) (by kernel_rfl) ?_
      repeat (first | go_big_quiet_skip | (go_big_quiet_want; first | (refine quiet_loadD _ ⟨b1, o1 + k * 16, none⟩ C rfl rfl (fun W hW => LD1.out W (by obtain ⟨n, rfl⟩ := hW; first | exact ⟨_, rfl⟩ | exact ⟨_, World.drewN_drewN _ _ _⟩)) ?_; go_big_quiet_on; go_simp) | (refine quiet_loadD _ ⟨b2, o2 + k * 16, none⟩ C rfl rfl (fun W hW => LD2.out W (by obtain ⟨n, rfl⟩ := hW; first | exact ⟨_, rfl⟩ | exact ⟨_, World.drewN_drewN _ _ _⟩)) ?_; go_big_quiet_on; go_simp) | (refine quiet_neqD _ _ C rfl rfl rfl heq ?_; go_big_quiet_on; go_simp) | (go_big_quiet_op; go_big_quiet_on)))
      refine wpQuiet_nil ?_
      intro nq
      go_wp2
      go_roundw
      case rel => exact ⟨k + 1, _, by omega, by go_num, rfl⟩
      case measure => simp [intOf]; omega
    · go_wp2
      go_ret
      exact ⟨rfl, by (repeat' (first | (with_reducible exact Below.refl _ _) | (with_reducible assumption) | (with_reducible refine Below.alloc ?_ ?_ _) | (with_reducible refine Below.drew ?_) | (with_reducible refine below_dn ?_) | (with_reducible refine Below.setCell ?_ ?_ _) | (with_reducible exact Nat.le_refl _) | omega | (simp only [World.size_alloc, World.size_setCell, World.size_drew]; omega) | (simp; omega) | (simp; done)))⟩
end Go.Proofs.Ytlihndekeaefcaa
