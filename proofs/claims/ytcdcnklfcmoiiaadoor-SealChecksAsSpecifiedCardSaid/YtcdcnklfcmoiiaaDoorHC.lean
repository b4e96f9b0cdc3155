/- Ported from another seat (wip/hash/C.src, by wip/port.py): contracts that this chapter calls. -/
import Derived.Test.YtcdcnklfcmoiiaaDoorHB
import Derived.StillTailTactics
import Derived.Deep.MidRow
import Derived.Deep.WholeRow
import Derived.Below
import Derived.Laws.OwnMore
import Derived.Deep.Draws
import Derived.Laws.Rows
import Derived.Laws.CopyOwn
namespace Go.Proofs.YtcdcnklfcmoiiaaDoor
set_option linter.unusedVariables false
set_option linter.unusedSimpArgs false
namespace Hs
open Go.RowKit
/-- Block g is just these cells, none frozen. -/
def Blk (w : World) (g : Nat) (t : TypeId) (cs : Array Value) : Prop := w.heap[g]? = some (.cells cs t (0, 0))
section
variable {w w' : World} {g : Nat} {t : TypeId} {cs : Array Value}
set_option maxRecDepth 100000 in
theorem Blk.lt (h : Blk w g t cs) : g < w.heap.size := by
  rcases Nat.lt_or_ge g w.heap.size with hlt | hge
  · exact hlt
  · unfold Blk at h; rw [Array.getElem?_eq_none hge] at h; cases h
set_option maxRecDepth 100000 in
theorem Blk.cell (h : Blk w g t cs) (i : Nat) : w.cell? ⟨g, i, none⟩ = cs[i]? := cell_of_row w g i cs t (0, 0) h
set_option maxRecDepth 100000 in
theorem Blk.frozen (h : Blk w g t cs) (i : Nat) : w.frozen? ⟨g, i, none⟩ = false := by
  unfold Blk at h
  simp [World.frozen?, h]
set_option maxRecDepth 100000 in
theorem Blk.new (w : World) (t : TypeId) (cs : Array Value) : Blk (w.alloc (.cells cs t)) w.heap.size t cs := heap_alloc_new w _
set_option maxRecDepth 100000 in
theorem Blk.new' {g : Nat} (w : World) (t : TypeId) (cs cs' : Array Value) (h : w.heap.size = g) (e : cs = cs') : Blk (w.alloc (.cells cs t)) g t cs' := by subst h; subst e; exact heap_alloc_new w _
set_option maxRecDepth 100000 in
theorem Blk.drew (h : Blk w g t cs) : Blk w.drew g t cs := h
set_option maxRecDepth 100000 in
theorem Blk.drewN (h : Blk w g t cs) (n : Nat) : Blk (w.drewN n) g t cs := h
set_option maxRecDepth 100000 in
theorem Blk.alloc (h : Blk w g t cs) (o : Obj) : Blk (w.alloc o) g t cs := (Below.heap_alloc w o g h.lt).trans h
set_option maxRecDepth 100000 in
theorem Blk.set_ (h : Blk w g t cs) (i : Nat) (u : Value) : Blk (w.setCell ⟨g, i, none⟩ u) g t (cs.setIfInBounds i u) := by
  unfold Blk at h ⊢
  simp [World.setCell, Array.getElem?_modify, h]
set_option maxRecDepth 100000 in
theorem Blk.far (h : Blk w g t cs) {p : Addr} (hp : g ≠ p.block) (u : Value) : Blk (w.setCell p u) g t cs := (Below.heap_setCell w p u g hp).trans h
set_option maxRecDepth 100000 in
theorem Blk.below {B : Nat} (h : Blk w g t cs) (hb : Below B w w') (hg : g < B) : Blk w' g t cs := (hb.block g hg).trans h
end
set_option maxRecDepth 100000 in
theorem Blk.row_ {w : World} {g : Nat} {t : TypeId} {cs : Array Value} (h : Blk w g t cs) (cs' : Array Value) : Blk (w.setRow g cs') g t cs' := setRow_heap w g cs cs' t (0, 0) h
set_option maxRecDepth 100000 in
theorem Blk.rowfar {w : World} {g g' : Nat} {t : TypeId} {cs : Array Value} (h : Blk w g t cs) (hne : g ≠ g') (cs' : Array Value) : Blk (w.setRow g' cs') g t cs := (setRow_other w g' g cs' hne).trans h
set_option maxRecDepth 100000 in
theorem wpList_store_blk {P : Program} {ops : Array Oper} {rest : List Oper} {op : Oper} {a : Act} {w : World} {Q : Exit → Act → World → Prop} (hgd : op.guard = none) (ty : TypeId) (x y : Operand) (ho : op.op = .store ty x y)
    (g : Nat) (t : TypeId) (old cells : Array Value) (hx : a.eval x = .pointer (some ⟨g, 0, none⟩)) (hy : a.eval y = .agg cells)
    (hg : Blk w g t old) (hi : (P.info? ty).map (·.size) = some cells.size) (hs : old.size = cells.size) (h1 : cells.all (·.oneCell') = true)
    (hd : op.dst = none) (h : wpList P ops Q rest a (w.setRow g cells)) : wpList P ops Q (op :: rest) a w := by
  refine wpList_plain hgd fun K hK => ?_
  unfold Oper.wp execOp
  simp only [ho, hx, hy, Instr.storeAt, Instr.sureAddr, Sem.run_bind, Sem.run_pure, Result.andThen_ok, run_storeVar_row w g t ty old cells hg hi hs h1]
  have e : a.put op.dst undef = a := by rw [hd]; rfl
  have := hK _ _ h
  rw [← e] at this
  exact this
set_option maxRecDepth 100000 in
theorem wpList_load_blk {P : Program} {ops : Array Oper} {rest : List Oper} {op : Oper} {a : Act} {w : World} {Q : Exit → Act → World → Prop} (hgd : op.guard = none) (ty : TypeId) (x : Operand) (ho : op.op = .load ty x)
    (g : Nat) (hx : a.eval x = .pointer (some ⟨g, 0, none⟩)) (t : TypeId) (cs : Array Value) (n : Nat) (e : TypeId) (hg : Blk w g t cs)
    (hu : P.underlying ty = some (.array n e)) (hi : (P.info? ty).map (·.size) = some cs.size)
    (h : wpList P ops Q rest (a.put op.dst (.agg cs)) w) : wpList P ops Q (op :: rest) a w :=
  wpList_load_row hgd ty x ho g hx t cs (0, 0) (.array n e) hg hu rfl hi h
def bvs (l : List Nat) : Array Value := (l.map bv).toArray
def wvs (l : List Nat) : Array Value := (l.map wv).toArray
set_option maxRecDepth 100000 in
theorem bvs_at (l : List Nat) (k : Nat) (h : k < l.length) : (bvs l)[k]? = some (bv (l.getD k 0)) := by
  unfold bvs
  rw [List.getElem?_toArray, List.getElem?_map, List.getElem?_eq_getElem h, List.getD_eq_getElem?_getD, List.getElem?_eq_getElem h]
  rfl
set_option maxRecDepth 100000 in
theorem wvs_at (l : List Nat) (k : Nat) (h : k < l.length) : (wvs l)[k]? = some (wv (l.getD k 0)) := by
  unfold wvs
  rw [List.getElem?_toArray, List.getElem?_map, List.getElem?_eq_getElem h, List.getD_eq_getElem?_getD, List.getElem?_eq_getElem h]
  rfl
set_option maxRecDepth 100000 in
theorem wvs_set (l : List Nat) (k x : Nat) : (wvs l).setIfInBounds k (wv x) = wvs (l.set k x) := by
  unfold wvs
  rw [List.setIfInBounds_toArray, List.map_set]
set_option maxRecDepth 100000 in
theorem bvs_set (l : List Nat) (k x : Nat) : (bvs l).setIfInBounds k (bv x) = bvs (l.set k x) := by
  unfold bvs
  rw [List.setIfInBounds_toArray, List.map_set]
set_option maxRecDepth 100000 in
theorem bvs_one (l : List Nat) : (bvs l).all (·.oneCell') = true := by
  unfold bvs
  rw [Array.all_eq_true_iff_forall_mem]
  intro v hv
  simp at hv
  obtain ⟨x, _, rfl⟩ := hv
  rfl
set_option maxRecDepth 100000 in
theorem wvs_one (l : List Nat) : (wvs l).all (·.oneCell') = true := by
  unfold wvs
  rw [Array.all_eq_true_iff_forall_mem]
  intro v hv
  simp at hv
  obtain ⟨x, _, rfl⟩ := hv
  rfl
set_option maxRecDepth 100000 in
theorem bvs_size (l : List Nat) : (bvs l).size = l.length := by unfold bvs; simp
set_option maxRecDepth 100000 in
theorem wvs_size (l : List Nat) : (wvs l).size = l.length := by unfold wvs; simp
/-- A list and zeros, n in all. -/
def pad (n : Nat) (l : List Nat) : List Nat := l ++ List.replicate (n - l.length) 0
set_option maxRecDepth 100000 in
theorem pad_len (n : Nat) (l : List Nat) (h : l.length ≤ n) : (pad n l).length = n := by unfold pad; simp; omega
set_option maxRecDepth 100000 in
theorem pad_set (n : Nat) (l : List Nat) (x : Nat) (h : l.length < n) : (pad n l).set l.length x = pad n (l ++ [x]) := by
  unfold pad
  rw [List.set_append_right _ _ (Nat.le_refl _), Nat.sub_self, List.length_append, List.append_assoc]
  congr 1
  have : n - l.length = (n - (l.length + [x].length)) + 1 := by simp; omega
  rw [this, List.replicate_succ]
  rfl
set_option maxRecDepth 100000 in
theorem pad_at (n : Nat) (l : List Nat) (k : Nat) : (pad n l).getD k 0 = l.getD k 0 := by
  unfold pad
  rw [List.getD_eq_getElem?_getD, List.getD_eq_getElem?_getD, List.getElem?_append]
  split
  · rfl
  · rename_i h
    rw [List.getElem?_eq_none (by omega : l.length ≤ k), List.getElem?_replicate]
    split <;> rfl
set_option maxRecDepth 100000 in
theorem pad_full (n : Nat) (l : List Nat) (h : l.length = n) : pad n l = l := by unfold pad; rw [h]; simp
set_option maxRecDepth 100000 in
theorem word_val (x0 x1 x2 x3 : Nat) (h0 : x0 < 256) (h1 : x1 < 256) (h2 : x2 < 256) (h3 : x3 < 256) :
    bits .or .u32 (bits .or .u32 (bits .or .u32 (IntKind.u32.wrap (IntKind.u32.wrap (x0 : Int) * 16777216)) (IntKind.u32.wrap (IntKind.u32.wrap (x1 : Int) * 65536))) (IntKind.u32.wrap (IntKind.u32.wrap (x2 : Int) * 256))) (IntKind.u32.wrap (x3 : Int))
      = ((((x0 * 2 ^ 24 ||| x1 * 2 ^ 16) ||| x2 * 2 ^ 8) ||| x3 : Nat) : Int) := by
  have e0 : IntKind.u32.wrap (IntKind.u32.wrap (x0 : Int) * 16777216) = ((x0 * 2 ^ 24 : Nat) : Int) := by rw [IntKind.wrap_u32', IntKind.wrap_u32']; omega
  have e1 : IntKind.u32.wrap (IntKind.u32.wrap (x1 : Int) * 65536) = ((x1 * 2 ^ 16 : Nat) : Int) := by rw [IntKind.wrap_u32', IntKind.wrap_u32']; omega
  have e2 : IntKind.u32.wrap (IntKind.u32.wrap (x2 : Int) * 256) = ((x2 * 2 ^ 8 : Nat) : Int) := by rw [IntKind.wrap_u32', IntKind.wrap_u32']; omega
  have e3 : IntKind.u32.wrap (x3 : Int) = (x3 : Int) := by rw [IntKind.wrap_u32']; omega
  have k1 : x0 * 2 ^ 24 ||| x1 * 2 ^ 16 < 2 ^ 32 := Nat.or_lt_two_pow (by omega) (by omega)
  have k2 : (x0 * 2 ^ 24 ||| x1 * 2 ^ 16) ||| x2 * 2 ^ 8 < 2 ^ 32 := Nat.or_lt_two_pow k1 (by omega)
  rw [e0, e1, e2, e3, u32_or_nat _ _ (by omega) (by omega), u32_or_nat _ _ k1 (by omega), u32_or_nat _ _ k2 (by omega)]
set_option maxRecDepth 100000 in
theorem sg_val (x r s q : Nat) (hr : r < 4294967296) (hs : s < 4294967296) (hx : x < 4294967296) : bits .xor .u32 (bits .xor .u32 (r : Int) (s : Int)) ((x : Int) / (q : Int)) = (((r ^^^ s) ^^^ (x / q) : Nat) : Int) := by
  have h2 : (x : Int) / (q : Int) = ((x / q : Nat) : Int) := by simp
  rw [h2, u32_xor_nat _ _ hr hs]
  exact u32_xor_nat _ _ (xor32 hr hs) (Nat.lt_of_le_of_lt (Nat.div_le_self _ _) hx)
set_option maxRecDepth 100000 in
theorem sg0_val (x : Nat) (hx : x < 4294967296) : bits .xor .u32 (bits .xor .u32 (rotr x 7 : Int) (rotr x 18 : Int)) ((x : Int) / 8) = ((sg0 x : Nat) : Int) := sg_val x _ _ 8 (rotr_lt _ _ hx) (rotr_lt _ _ hx) hx
set_option maxRecDepth 100000 in
theorem sg1_val (x : Nat) (hx : x < 4294967296) : bits .xor .u32 (bits .xor .u32 (rotr x 17 : Int) (rotr x 19 : Int)) ((x : Int) / 1024) = ((sg1 x : Nat) : Int) := sg_val x _ _ 1024 (rotr_lt _ _ hx) (rotr_lt _ _ hx) hx
set_option maxRecDepth 100000 in
theorem add_val (a b : Nat) : IntKind.u32.wrap ((a : Int) + (b : Int)) = ((add32 a b : Nat) : Int) := by rw [IntKind.wrap_u32']; unfold add32; omega
set_option maxRecDepth 100000 in
theorem add_mod (a b : Nat) : ((a : Int) + (b : Int)) % 4294967296 = ((add32 a b : Nat) : Int) := by unfold add32; omega
set_option maxRecDepth 100000 in
theorem sum4_val (a b c d : Nat) : IntKind.u32.wrap (IntKind.u32.wrap (IntKind.u32.wrap ((a : Int) + (b : Int)) + (c : Int)) + (d : Int)) = ((add32 (add32 (add32 a b) c) d : Nat) : Int) := by rw [add_val, add_val, add_val]
set_option maxRecDepth 100000 in
set_option maxHeartbeats 1000000 in
theorem schedule_any (b : List Nat) (w : World) (hb : b.length = 64) (hlt : ∀ k, b.getD k 0 < 256) :
    Calls Tryd.prog 104 #[.agg (bvs b)] w fun e w' => e = .returned (.agg (wvs (sched b 64))) ∧ Below w.heap.size w w' := by
  have HB := Lib.hid hb; have HL := Lib.hid hlt
  clear hb hlt
  go_enter Tryd.func104, Tryd.ntmps104
  go_wp2
  go_loopw [10] (fun uk wr => ∃ k : Nat, k ≤ 16 ∧ uk = .int .i64 k ∧ wr.heap.size = w.heap.size + 3 ∧ Below w.heap.size w wr ∧ Hid (Blk wr w.heap.size 120 (bvs b)) ∧ Hid (Blk wr (w.heap.size + 1) 142 (wvs (pad 64 []))) ∧ Hid (Blk wr (w.heap.size + 1 + 1) 142 (wvs (pad 64 (sched b k))))) (fun uk _ => 16 - (intOf uk).toNat)
  case atStart =>
    refine ⟨0, by omega, rfl, by simp, by (repeat' (first | (with_reducible exact Below.refl _ _) | (with_reducible assumption) | (with_reducible refine Below.alloc ?_ ?_ _) | (with_reducible refine Below.drew ?_) | (with_reducible refine below_dn ?_) | (with_reducible refine Below.setCell ?_ ?_ _) | (with_reducible exact Nat.le_refl _) | omega | (simp only [World.size_alloc, World.size_setCell, World.size_drew]; omega) | (simp; omega) | (simp; done))), Lib.hid (((Blk.new w _ _).alloc _).alloc _), Lib.hid ((Blk.new' _ _ _ _ (by simp) rfl).alloc _), Lib.hid (Blk.new' _ _ _ _ (by simp) rfl)⟩
  case round =>
    obtain ⟨k, hk, rfl, hsz, B, h0, h1, h2⟩ := hrel
    by_cases hlt : k < 16
    · obtain ⟨M, hM⟩ : ∃ M, 4 * k = M := ⟨_, rfl⟩
      have l0 := HL.out M; have l1 := HL.out (M + 1); have l2 := HL.out (M + 2); have l3 := HL.out (M + 3)
      have d0 := (h0.out.cell M).trans (bvs_at b M (by rw [HB.out]; omega))
      have d1 := (h0.out.cell (M + 1)).trans (bvs_at b (M + 1) (by rw [HB.out]; omega))
      have d2 := (h0.out.cell (M + 2)).trans (bvs_at b (M + 2) (by rw [HB.out]; omega))
      have d3 := (h0.out.cell (M + 3)).trans (bvs_at b (M + 3) (by rw [HB.out]; omega))
      have hwd : nextW b (sched b k) k = ((b.getD M 0 * 2 ^ 24 ||| b.getD (M + 1) 0 * 2 ^ 16) ||| b.getD (M + 2) 0 * 2 ^ 8) ||| b.getD (M + 3) 0 := by
        unfold nextW word
        rw [if_pos hlt, hM]
      obtain ⟨x0, e0⟩ : ∃ x, b.getD M 0 = x := ⟨_, rfl⟩
      obtain ⟨x1, e1⟩ : ∃ x, b.getD (M + 1) 0 = x := ⟨_, rfl⟩
      obtain ⟨x2, e2⟩ : ∃ x, b.getD (M + 2) 0 = x := ⟨_, rfl⟩
      obtain ⟨x3, e3⟩ : ∃ x, b.getD (M + 3) 0 = x := ⟨_, rfl⟩
      rw [e0] at l0 d0 hwd; rw [e1] at l1 d1 hwd; rw [e2] at l2 d2 hwd; rw [e3] at l3 d3 hwd
      clear e0 e1 e2 e3
      have fr := h2.out.frozen k
      have dk := (h2.out.cell k).trans (wvs_at _ k (by rw [pad_len _ _ (by rw [sched_len]; omega)]; omega))
      obtain ⟨od, hod⟩ : ∃ x, (pad 64 (sched b k)).getD k 0 = x := ⟨_, rfl⟩
      rw [hod] at dk
      have v0 : IntKind.i64.wrap (4 * (k : Int)) = (M : Int) := by rw [IntKind.wrap_i64]; omega
      have v1 : IntKind.i64.wrap ((M : Int) + 1) = (M : Int) + 1 := by rw [IntKind.wrap_i64]; omega
      have v2 : IntKind.i64.wrap ((M : Int) + 2) = (M : Int) + 2 := by rw [IntKind.wrap_i64]; omega
      have v3 : IntKind.i64.wrap ((M : Int) + 3) = (M : Int) + 3 := by rw [IntKind.wrap_i64]; omega
      have u1 : ((M : Int) + 1).toNat = M + 1 := by omega
      have u2 : ((M : Int) + 2).toNat = M + 2 := by omega
      have u3 : ((M : Int) + 3).toNat = M + 3 := by omega
      have p1 : (0 : Int) ≤ (M : Int) + 1 := by omega
      have p2 : (0 : Int) ≤ (M : Int) + 2 := by omega
      have p3 : (0 : Int) ≤ (M : Int) + 3 := by omega
      have b0 : (M : Int) < 64 := by omega
      have p0 : (0 : Int) ≤ (M : Int) := by omega
      have bk : (k : Int) < 64 := by omega
      have pk : (0 : Int) ≤ (k : Int) := by omega
      have b1 : (M : Int) + 1 < 64 := by omega
      have b2 : (M : Int) + 2 < 64 := by omega
      have b3 : (M : Int) + 3 < 64 := by omega
      have hv := word_val x0 x1 x2 x3 l0 l1 l2 l3
      rw [← hwd] at hv
      obtain ⟨y, hy⟩ : ∃ y, nextW b (sched b k) k = y := ⟨_, rfl⟩
      rw [hy] at hv
      have HY := Lib.hid hy
      clear hM hod hwd hy l0 l1 l2 l3
      go_wp2
      refine wp_region_still_tail 31 (by kernel_rfl) (by kernel_rfl) ?_
      simp only [List.take_succ_cons, List.take_zero, List.drop_succ_cons, List.drop_zero]
      show wpStill _ _ (World.drew _) _ _ _
      repeat still_step
      refine wpStill_nil ?_
      show wpList _ _ _ _ _ (World.drew _)
      go_wp2
      go_roundw
      case rel =>
        refine ⟨k + 1, by omega, by go_num, by simp [hsz], by (repeat' (first | (with_reducible exact Below.refl _ _) | (with_reducible assumption) | (with_reducible refine Below.alloc ?_ ?_ _) | (with_reducible refine Below.drew ?_) | (with_reducible refine below_dn ?_) | (with_reducible refine Below.setCell ?_ ?_ _) | (with_reducible exact Nat.le_refl _) | omega | (simp only [World.size_alloc, World.size_setCell, World.size_drew]; omega) | (simp; omega) | (simp; done))), Lib.hid (h0.out.drew.far (by simp; omega) _), Lib.hid (h1.out.drew.far (by simp) _), Lib.hid ?_⟩
        have := h2.out.set_ k (wv y)
        rw [wvs_set] at this
        have e := pad_set 64 (sched b k) y (by rw [sched_len]; omega)
        rw [sched_len] at e
        rw [e] at this
        rw [sched, HY.out]
        exact this.drew
      case measure => simp [intOf]; omega
    · have KE := Lib.hid (show k = 16 by omega)
      clear hk
      go_wp2
      go_loopw [5] (fun uk wr => ∃ j : Nat, 16 ≤ j ∧ j ≤ 64 ∧ uk = .int .i64 j ∧ wr.heap.size = w.heap.size + 3 ∧ Below w.heap.size w wr ∧ Hid (Blk wr (w.heap.size + 1) 142 (wvs (pad 64 []))) ∧ Hid (Blk wr (w.heap.size + 1 + 1) 142 (wvs (pad 64 (sched b j))))) (fun uk _ => 64 - (intOf uk).toNat)
      case atStart => exact ⟨16, by omega, by omega, rfl, hsz, B, h1, by rw [KE.out] at h2; exact h2⟩
      case round =>
        clear hsz B h0 h1 h2
        obtain ⟨j, hk16, hk, rfl, hsz, B, h1, h2⟩ := hrel
        by_cases hlt : j < 64
        · have LS := getD_lt (by decide : 0 < 4294967296) (sched_lt b HL.out j)
          have cell := fun A (hA : A < 64) => ((h2.out.cell A).trans (wvs_at _ A (by rw [pad_len _ _ (by rw [sched_len]; omega)]; exact hA))).trans (by rw [pad_at])
          obtain ⟨A, hA⟩ : ∃ A, j = A + 15 := ⟨j - 15, by omega⟩
          obtain ⟨C, hC⟩ : ∃ C, j = C + 2 := ⟨j - 2, by omega⟩
          obtain ⟨D, hD⟩ : ∃ D, j = D + 16 := ⟨j - 16, by omega⟩
          obtain ⟨E, hE⟩ : ∃ E, j = E + 7 := ⟨j - 7, by omega⟩
          have vA : IntKind.i64.wrap ((j : Int) - 15) = (A : Int) := by rw [IntKind.wrap_i64]; omega
          have vC : IntKind.i64.wrap ((j : Int) - 2) = (C : Int) := by rw [IntKind.wrap_i64]; omega
          have vD : IntKind.i64.wrap ((j : Int) - 16) = (D : Int) := by rw [IntKind.wrap_i64]; omega
          have vE : IntKind.i64.wrap ((j : Int) - 7) = (E : Int) := by rw [IntKind.wrap_i64]; omega
          have hnx : nextW b (sched b j) j = add32 (add32 (add32 ((sched b j).getD D 0) (sg0 ((sched b j).getD A 0))) ((sched b j).getD E 0)) (sg1 ((sched b j).getD C 0)) := by
            unfold nextW
            rw [if_neg (by omega), show j - 16 = D by omega, show j - 15 = A by omega, show j - 7 = E by omega, show j - 2 = C by omega]
          have dA := cell A (by omega); have dC := cell C (by omega); have dD := cell D (by omega); have dE := cell E (by omega)
          have dk := cell j hlt
          have fr := h2.out.frozen j
          have lA := LS A; have lC := LS C; have lD := LS D; have lE := LS E
          obtain ⟨xA, eA⟩ : ∃ x, (sched b j).getD A 0 = x := ⟨_, rfl⟩
          obtain ⟨xC, eC⟩ : ∃ x, (sched b j).getD C 0 = x := ⟨_, rfl⟩
          obtain ⟨xD, eD⟩ : ∃ x, (sched b j).getD D 0 = x := ⟨_, rfl⟩
          obtain ⟨xE, eE⟩ : ∃ x, (sched b j).getD E 0 = x := ⟨_, rfl⟩
          obtain ⟨xk, ek⟩ : ∃ x, (sched b j).getD j 0 = x := ⟨_, rfl⟩
          rw [eA] at dA lA hnx; rw [eC] at dC lC hnx; rw [eD] at dD lD hnx; rw [eE] at dE lE hnx; rw [ek] at dk
          clear eA eC eD eE ek LS cell
          have iA : (A : Int) < 64 := by omega
          have iC : (C : Int) < 64 := by omega
          have iD : (D : Int) < 64 := by omega
          have iE : (E : Int) < 64 := by omega
          have ik : (j : Int) < 64 := by omega
          have pA : (0 : Int) ≤ (A : Int) := by omega
          have pC : (0 : Int) ≤ (C : Int) := by omega
          have pD : (0 : Int) ≤ (D : Int) := by omega
          have pE : (0 : Int) ≤ (E : Int) := by omega
          have pk : (0 : Int) ≤ (j : Int) := by omega
          have q1 := sg0_val xA lA
          have q2 := sg1_val xC lC
          have g1 := rotr_lt xA 7 lA
          have c7 := Lib.hid (fun W : World => rot7 xA W lA)
          have c18 := Lib.hid (fun W : World => rot18 xA W lA)
          have c17 := Lib.hid (fun W : World => rot17 xC W lC)
          have c19 := Lib.hid (fun W : World => rot19 xC W lC)
          obtain ⟨r7, e7⟩ : ∃ r, rotr xA 7 = r := ⟨_, rfl⟩
          obtain ⟨r18, e18⟩ : ∃ r, rotr xA 18 = r := ⟨_, rfl⟩
          obtain ⟨r17, e17⟩ : ∃ r, rotr xC 17 = r := ⟨_, rfl⟩
          obtain ⟨r19, e19⟩ : ∃ r, rotr xC 19 = r := ⟨_, rfl⟩
          obtain ⟨S0, hS0⟩ : ∃ r, sg0 xA = r := ⟨_, rfl⟩
          obtain ⟨S1, hS1⟩ : ∃ r, sg1 xC = r := ⟨_, rfl⟩
          rw [e7] at c7 q1; rw [e18] at c18 q1; rw [e17] at c17 q2; rw [e19] at c19 q2
          rw [hS0] at q1 hnx; rw [hS1] at q2 hnx
          have q3 := sum4_val xD S0 xE S1
          rw [← hnx] at q3
          obtain ⟨y, hy⟩ : ∃ y, nextW b (sched b j) j = y := ⟨_, rfl⟩
          rw [hy] at q3
          have HY := Lib.hid hy
          have KA := Lib.hid hA
          clear hA hC hD hE hnx hy e7 e18 e17 e19 hS0 hS1 g1 lA lC lD lE
          go_wp2
          go_quiet (fail)
          go_wp2_with fail
          refine (c7.out _).mono ?_
          rintro e w1 ⟨rfl, rfl⟩
          go_wp2_with fail
          refine (c18.out _).mono ?_
          rintro e w1 ⟨rfl, rfl⟩
          go_wp2_with fail
          refine (c17.out _).mono ?_
          rintro e w1 ⟨rfl, rfl⟩
          go_wp2_with fail
          refine (c19.out _).mono ?_
          rintro e w1 ⟨rfl, rfl⟩
          go_wp2
          refine wp_region_still_tail 15 (by kernel_rfl) (by kernel_rfl) ?_
          simp only [List.take_succ_cons, List.take_zero, List.drop_succ_cons, List.drop_zero]
          show wpStill _ _ (World.drew _) _ _ _
          repeat still_step
          refine wpStill_nil ?_
          show wpList _ _ _ _ _ (World.drew _)
          go_wp2
          go_roundw
          case rel =>
            refine ⟨j + 1, by omega, by omega, by go_num, ?_, ?_, ?_, ?_⟩
            · simp [hsz]
            · (repeat' (first | (with_reducible exact Below.refl _ _) | (with_reducible assumption) | (with_reducible refine Below.alloc ?_ ?_ _) | (with_reducible refine Below.drew ?_) | (with_reducible refine below_dn ?_) | (with_reducible refine Below.setCell ?_ ?_ _) | (with_reducible exact Nat.le_refl _) | omega | (simp only [World.size_alloc, World.size_setCell, World.size_drew]; omega) | (simp; omega) | (simp; done)))
            · refine Lib.hid ?_
              exact ((h1.out.far (by simp) _).drewN _)
            · refine Lib.hid ?_
              have := h2.out.set_ j (wv y)
              rw [wvs_set] at this
              have e := pad_set 64 (sched b j) y (by rw [sched_len]; omega)
              rw [sched_len] at e
              rw [e] at this
              rw [sched, HY.out]
              exact this.drewN _
          case measure => simp [intOf]; omega
        · obtain rfl : j = 64 := by omega
          rw [pad_full _ _ (sched_len b 64)] at h2
          have ia : (Tryd.prog.info? 142).map (·.size) = some (wvs (sched b 64)).size := by rw [wvs_size, sched_len]; kernel_rfl
          have sz : (wvs (pad 64 [])).size = (wvs (sched b 64)).size := by rw [wvs_size, wvs_size, sched_len]; rfl
          have IA := Lib.hid ia; have SZ := Lib.hid sz
          clear ia sz
          go_wp2_with (first | (with_reducible refine wpList_load_blk rfl _ _ rfl _ rfl 142 _ _ _ h2.out Tryd.underlying142 IA.out ?_) | (with_reducible refine wpList_store_blk rfl _ _ _ rfl _ 142 _ _ rfl rfl h1.out IA.out SZ.out (wvs_one _) rfl ?_))
          refine bodyPost_ret (v := .agg (wvs (sched b 64))) (results_cell_row rfl _ _ _ 142 _ (0, 0) _ rfl (h1.out.row_ _) Tryd.underlying142 rfl IA.out) rfl ⟨rfl, ?_⟩
          exact below_setRow B (by omega) _
end Hs
end Go.Proofs.YtcdcnklfcmoiiaaDoor
