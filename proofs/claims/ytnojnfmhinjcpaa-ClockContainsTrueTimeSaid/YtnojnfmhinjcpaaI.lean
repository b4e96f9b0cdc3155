import Derived.Test.YtnojnfmhinjcpaaH
import Derived.Test.YtnojnfmhinjcpaaR
import Derived.OpenShut
namespace Go.Proofs.Ytnojnfmhinjcpaa
set_option linter.unusedVariables false
set_option linter.unusedSimpArgs false
open Go.RowKit Go.Shelf
attribute [local go_sem] Oper.semAt_some
/-- One pace: the state is the parts so far, and the instant that is left. -/
def adv (st : Int × Int) (p : Int × Int) : Int × Int := (st.1 + min p.1 st.2 * (1000000 + p.2), st.2 - min p.1 st.2)
def run (st : Int × Int) (ps : List (Int × Int)) : Int × Int := ps.foldl adv st
theorem run_take (st : Int × Int) (ps : List (Int × Int)) (k : Nat) (h : k < ps.length) : run st (ps.take (k + 1)) = adv (run st (ps.take k)) (ps.getD k (0, 0)) := by
  unfold run
  rw [List.take_succ_eq_append_getElem h, List.foldl_append]
  simp [List.getElem?_eq_getElem h]
def stepS (x y : Int) (st : Int × Int) : Int × Int := (st.1 + x * (1000000 + y), st.2)
def fitS (x y : Int) (st : Int × Int) : Prop := 0 ≤ x ∧ x ≤ 1099511627776 ∧ -100000 ≤ y ∧ y ≤ 100000 ∧ 0 ≤ st.1 ∧ 0 ≤ x * (1000000 + y) ∧ x * (1000000 + y) ≤ 1300000000000000000 ∧ st.1 + x * (1000000 + y) ≤ 2309000000000000000
/-- What lies in memory between two rounds. -/
structure Mid (w0 : World) (Bp Bs Bt : Nat) (sl : Value) (st : Int × Int) (W : World) : Prop where
  cp : W.cell? ⟨Bp, 0, none⟩ = some (.int .i64 st.1)
  fp : W.frozen? ⟨Bp, 0, none⟩ = false
  ct : W.cell? ⟨Bt, 0, none⟩ = some (.int .i64 st.2)
  ft : W.frozen? ⟨Bt, 0, none⟩ = false
  cs : W.cell? ⟨Bs, 0, none⟩ = some sl
  bw : Below w0.heap.size w0 W
theorem Mid.put {w0 : World} {Bp Bs Bt : Nat} {sl : Value} {st : Int × Int} {W : World} (h : Mid w0 Bp Bs Bt sl st W) (l : Nat) (o : Obj) (h1 : l ≠ Bp) (h2 : l ≠ Bs) (h3 : l ≠ Bt) (h4 : w0.heap.size ≤ l) : Mid w0 Bp Bs Bt sl st (W.putObj l o) :=
  ⟨(World.cell?_of_block (World.putObj_heap_other (Ne.symm h1))).trans h.cp, (World.frozen?_of_block (World.putObj_heap_other (Ne.symm h1))).trans h.fp,
   (World.cell?_of_block (World.putObj_heap_other (Ne.symm h3))).trans h.ct, (World.frozen?_of_block (World.putObj_heap_other (Ne.symm h3))).trans h.ft,
   (World.cell?_of_block (World.putObj_heap_other (Ne.symm h2))).trans h.cs,
   h.bw.trans ⟨rfl, rfl, rfl, by simp, fun k hk => World.putObj_heap_other (by omega)⟩⟩
theorem Mid.alloc {w0 : World} {Bp Bs Bt : Nat} {sl : Value} {st : Int × Int} {W : World} (h : Mid w0 Bp Bs Bt sl st W) (o : Obj) : Mid w0 Bp Bs Bt sl st (W.alloc o) := by
  have e : ∀ b v, W.cell? ⟨b, 0, none⟩ = some v → (W.alloc o).heap[b]? = W.heap[b]? := fun b v hc => Below.heap_alloc W o b (block_lt_of_cell hc)
  exact ⟨(World.cell?_of_block (e _ _ h.cp)).trans h.cp, (World.frozen?_of_block (e _ _ h.cp)).trans h.fp, (World.cell?_of_block (e _ _ h.ct)).trans h.ct, (World.frozen?_of_block (e _ _ h.ct)).trans h.ft, (World.cell?_of_block (e _ _ h.cs)).trans h.cs, h.bw.trans ((Below.refl _ W).alloc h.bw.size _)⟩
theorem Mid.setT {w0 : World} {Bp Bs Bt : Nat} {sl : Value} {st : Int × Int} {W : World} (h : Mid w0 Bp Bs Bt sl st W) (t : Int) (h1 : Bt ≠ Bp) (h2 : Bt ≠ Bs) (h4 : w0.heap.size ≤ Bt) : Mid w0 Bp Bs Bt sl (st.1, t) (W.setCell ⟨Bt, 0, none⟩ (.int .i64 t)) := by
  have e : ∀ b, b ≠ Bt → (W.setCell ⟨Bt, 0, none⟩ (.int .i64 t)).heap[b]? = W.heap[b]? := fun b hb => Below.heap_setCell W _ _ b hb
  exact ⟨(World.cell?_of_block (e _ (Ne.symm h1))).trans h.cp, by rw [World.frozen?_setCell]; exact h.fp, World.cell?_setCell_same' _ _ _ (by rw [h.ct]; rfl), by rw [World.frozen?_setCell]; exact h.ft, (World.cell?_of_block (e _ (Ne.symm h2))).trans h.cs, h.bw.setCell h4 _⟩
theorem Mid.setP {w0 : World} {Bp Bs Bt : Nat} {sl : Value} {st : Int × Int} {W : World} (h : Mid w0 Bp Bs Bt sl st W) (s : Int) (h1 : Bp ≠ Bt) (h2 : Bp ≠ Bs) (h4 : w0.heap.size ≤ Bp) : Mid w0 Bp Bs Bt sl (s, st.2) (W.setCell ⟨Bp, 0, none⟩ (.int .i64 s)) := by
  have e : ∀ b, b ≠ Bp → (W.setCell ⟨Bp, 0, none⟩ (.int .i64 s)).heap[b]? = W.heap[b]? := fun b hb => Below.heap_setCell W _ _ b hb
  exact ⟨World.cell?_setCell_same' _ _ _ (by rw [h.cp]; rfl), by rw [World.frozen?_setCell]; exact h.fp, (World.cell?_of_block (e _ (Ne.symm h1))).trans h.ct, by rw [World.frozen?_setCell]; exact h.ft, (World.cell?_of_block (e _ (Ne.symm h2))).trans h.cs, h.bw.setCell h4 _⟩
theorem prod_bd (x y : Int) (hx : 0 ≤ x) (hy : -100000 ≤ y) (hy2 : y ≤ 100000) : 0 ≤ x * (1000000 + y) ∧ x * (1000000 + y) ≤ x * 1100000 :=
  ⟨Int.mul_nonneg hx (by omega), Int.mul_le_mul_of_nonneg_left (by omega) hx⟩
/-- The bounds of the state after k paces. -/
theorem run_bd (ps : List (Int × Int)) (s t : Int) (hs : 0 ≤ s) (ht : 0 ≤ t) (hb : s + t * 1100000 ≤ 2309000000000000000) (hr : ps.all okPace = true) (k : Nat) :
    0 ≤ (run (s, t) (ps.take k)).1 ∧ 0 ≤ (run (s, t) (ps.take k)).2 ∧ (run (s, t) (ps.take k)).2 ≤ t ∧ (run (s, t) (ps.take k)).1 + (run (s, t) (ps.take k)).2 * 1100000 ≤ 2309000000000000000 := by
  induction k with
  | zero => simp [run]; omega
  | succ k ih =>
    by_cases h : k < ps.length
    · rw [run_take _ _ _ h]
      obtain ⟨a1, a2, a3, a4⟩ := ih
      have hp : okPace (ps.getD k (0, 0)) = true := by
        rw [List.all_eq_true] at hr
        rw [List.getD_eq_getElem?_getD, List.getElem?_eq_getElem h]
        exact hr _ (List.getElem_mem h)
      simp only [okPace, decide_eq_true_eq] at hp
      generalize run (s, t) (ps.take k) = st at *
      generalize ps.getD k (0, 0) = p at *
      unfold adv
      obtain ⟨b1, b2⟩ := prod_bd (min p.1 st.2) p.2 (by omega) hp.2.2.1 hp.2.2.2
      simp only
      omega
    · rw [List.take_of_length_le (by omega)]
      rw [List.take_of_length_le (by omega)] at ih
      exact ih
set_option maxRecDepth 100000 in
set_option maxHeartbeats 1000000 in
theorem until1_in (n : Nat) (hn : 1 ≤ n) (w0 : World) (Bp Bs Bt : Nat) (b off cap : Nat) (ps : List (Int × Int)) (s t : Int)
    (h1 : Bt ≠ Bp) (h2 : Bt ≠ Bs) (h4 : w0.heap.size ≤ Bt) (hp : Paces w0 b off ps) (hm : ps.length ≤ 9223372036854775807)
    (hs : 0 ≤ s) (ht : 0 ≤ t) (ht2 : t ≤ 1099511627776) (hb : s + t * 1100000 ≤ 2309000000000000000) (hr : ps.all okPace = true) :
    Iterates Fence.wide n Try.prog 48 #[.pointer (some ⟨Bs, 0, none⟩), .pointer (some ⟨Bt, 0, none⟩)] (Mid w0 Bp Bs Bt (.slice (some ⟨b, off, none⟩) ps.length cap)) fitS stepS (s, t)
      (fun st => st.1 = (run (s, t) ps).1 + (run (s, t) ps).2 * 1000000) := by
  intro l J hJ hY W hJ0
  refine callsIn_of_wp Try.func48 rfl trivial ?_ rfl
  have HP := Lib.hid hp; clear hp
  have HR := Lib.hid hr; clear hr
  have HJ := Lib.hid hJ; clear hJ
  have HY := Lib.hid hY; clear hY
  have m0 := (HJ.out.1 _ _ hJ0).cs
  simp only [Try.ntmps48, List.size_toArray, List.length_cons, List.length_nil, Nat.reduceAdd, Nat.reduceSub, Array.replicate_succ, Array.replicate_zero, List.push_toArray, List.append_toArray, List.nil_append, List.cons_append]
  gi_wp2
  gi_loopw [9] (fun i wr => ∃ k : Nat, k ≤ ps.length ∧ i = .int .i64 k ∧ J (run (s, t) (ps.take k)) wr)
    (fun i _ => ps.length - (intOf i).toNat)
  case atStart => exact ⟨0, by omega, rfl, hJ0⟩
  case round =>
    obtain ⟨k, hk, rfl, hJk⟩ := hrel
    obtain ⟨g1, g2, g3, g4⟩ := run_bd ps s t hs ht hb HR.out k
    obtain ⟨cp, fp, ct, ft, cs, bw⟩ := HJ.out.1 _ _ hJk
    have hbs := bw.size
    by_cases hlt : k < ps.length
    · obtain ⟨x, y, hxy⟩ : ∃ x y, ps.getD k (0, 0) = (x, y) := ⟨_, _, rfl⟩
      have hh := HP.out k hlt
      rw [hxy] at hh
      obtain ⟨q1, q2⟩ := hh
      have e1 : wr.cell? ⟨b, off + k * 2, none⟩ = some (.int .i64 x) := by rw [bw.cell (p := ⟨b, off + k * 2, none⟩) (block_lt_of_cell q1)]; exact q1
      have e2 : wr.cell? ⟨b, off + k * 2 + 1, none⟩ = some (.int .i64 y) := by rw [bw.cell (p := ⟨b, off + k * 2 + 1, none⟩) (block_lt_of_cell q2)]; exact q2
      have hop : okPace (ps.getD k (0, 0)) = true := by
        have := HR.out
        rw [List.all_eq_true] at this
        rw [List.getD_eq_getElem?_getD, List.getElem?_eq_getElem hlt]
        exact this _ (List.getElem_mem hlt)
      rw [hxy] at hop
      simp only [okPace, decide_eq_true_eq] at hop
      obtain ⟨o1, o2, o3, o4⟩ := hop
      have hstep := run_take (s, t) ps k hlt
      rw [hxy] at hstep
      obtain ⟨u, v, huv⟩ : ∃ u v, run (s, t) (ps.take k) = (u, v) := ⟨_, _, rfl⟩
      rw [huv] at hstep g1 g2 g3 g4 cp ct hJk
      simp only at g1 g2 g3 g4 cp ct
      have HST := Lib.hid hstep
      clear hstep q1 q2
      have HX := Lib.hid hxy; clear hxy
      have HU := Lib.hid huv; clear huv
      obtain ⟨b1, b2⟩ := prod_bd (min x v) y (by omega) o3 o4
      have hJ1 : J (u, v) (wr.alloc (.cells #[.int .i64 x, .int .i64 y] 70)) := HJ.out.2 _ _ _ _ hJk ((HJ.out.1 _ _ hJk).alloc _) (KeepsOthers.alloc _ _)
      obtain ⟨fn, tmps, assign, body, hy, hR⟩ := HY.out (min x v) y _ _ ⟨by omega, by omega, o3, o4, g1, b1, by omega, by simp only; omega⟩ hJ1
      have zt : Bt < wr.heap.size := block_lt_of_cell ct
      gi_wp2
      refine hR.mono ?_
      rintro e W3 ⟨rfl, hJ3⟩
      have M3 := HJ.out.1 _ _ hJ3
      have c3 := M3.ct
      have f3 := M3.ft
      simp only [stepS] at c3
      gi_wp2
      go_roundw
      case rel =>
        refine ⟨k + 1, by omega, by go_num, ?_⟩
        rw [HST.out]
        exact HJ.out.2 _ _ _ _ hJ3 (M3.setT _ h1 h2 h4) (KeepsOthers.setCell _ _ _)
      case measure => simp [intOf]; omega
    · obtain rfl : k = ps.length := by omega
      rw [List.take_length] at g1 g2 g3 g4 hJk cp ct
      obtain ⟨u, v, huv⟩ : ∃ u v, run (s, t) ps = (u, v) := ⟨_, _, rfl⟩
      rw [huv] at g1 g2 g3 g4 cp ct hJk
      simp only at g1 g2 g3 g4 cp ct
      have HU := Lib.hid huv; clear huv
      obtain ⟨fn, tmps, assign, body, hy, hR⟩ := HY.out v 0 _ _ ⟨by omega, by omega, by omega, by omega, g1, by omega, by omega, by simp only; omega⟩ hJk
      gi_wp2
      refine hR.mono ?_
      rintro e W3 ⟨rfl, hJ3⟩
      gi_wp2
      go_end0
      exact ⟨⟨_, rfl⟩, _, by rw [HU.out]; rfl, hJ3⟩
end Go.Proofs.Ytnojnfmhinjcpaa
