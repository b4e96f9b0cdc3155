import Derived.Test.YtnojnfmhinjcpaaH2
import Derived.Test.YtnojnfmhinjcpaaI
import Derived.OpenShut
namespace Go.Proofs.Ytnojnfmhinjcpaa
set_option linter.unusedVariables false
set_option linter.unusedSimpArgs false
open Go.RowKit Go.Shelf
attribute [local go_sem] Oper.semAt_some
set_option maxRecDepth 100000 in
set_option maxHeartbeats 1000000 in
theorem until1_inA (n : Nat) (hn : 1 ≤ n) (w0 : World) (Bp Bs Bt : Nat) (a : Option Addr) (cap : Nat) (ps : List (Int × Int)) (s t : Int)
    (h1 : Bt ≠ Bp) (h2 : Bt ≠ Bs) (h4 : w0.heap.size ≤ Bt) (hp : PacesA w0 a ps) (hm : ps.length ≤ 9223372036854775807)
    (hs : 0 ≤ s) (ht : 0 ≤ t) (ht2 : t ≤ 1099511627776) (hb : s + t * 1100000 ≤ 2309000000000000000) (hr : ps.all okPace = true) :
    Iterates Fence.wide n Try.prog 48 #[.pointer (some ⟨Bs, 0, none⟩), .pointer (some ⟨Bt, 0, none⟩)] (Mid w0 Bp Bs Bt (.slice a ps.length cap)) fitS stepS (s, t)
      (fun st => st.1 = (run (s, t) ps).1 + (run (s, t) ps).2 * 1000000) := by
  intro l J hJ hY W hJ0
  refine callsIn_of_wp Try.func48 rfl trivial ?_ rfl
  have HP := Lib.hid hp; clear hp
  have HR := Lib.hid hr; clear hr
  have HJ := Lib.hid hJ; clear hJ
  have HY := Lib.hid hY; clear hY
  have m0 := (HJ.out.1 _ _ hJ0).cs
  simp only [Try.ntmps48, List.size_toArray, List.length_cons, List.length_nil, Nat.reduceAdd, Nat.reduceSub, Array.replicate_succ, Array.replicate_zero, List.push_toArray, List.append_toArray, List.nil_append, List.cons_append]
  gi_wp2
  gi_loopw [9] (fun i wr => ∃ k : Nat, k ≤ ps.length ∧ i = .int .i64 k ∧ J (run (s, t) (ps.take k)) wr)
    (fun i _ => ps.length - (intOf i).toNat)
  case atStart => exact ⟨0, by omega, rfl, hJ0⟩
  case round =>
    obtain ⟨k, hk, rfl, hJk⟩ := hrel
    obtain ⟨g1, g2, g3, g4⟩ := run_bd ps s t hs ht hb HR.out k
    obtain ⟨cp, fp, ct, ft, cs, bw⟩ := HJ.out.1 _ _ hJk
    have hbs := bw.size
    by_cases hlt : k < ps.length
    · obtain ⟨x, y, hxy⟩ : ∃ x y, ps.getD k (0, 0) = (x, y) := ⟨_, _, rfl⟩
      obtain ⟨b, off, rfl, hh⟩ := HP.out k hlt
      rw [hxy] at hh
      obtain ⟨q1, q2⟩ := hh
      have e1 : wr.cell? ⟨b, off + k * 2, none⟩ = some (.int .i64 x) := by rw [bw.cell (p := ⟨b, off + k * 2, none⟩) (block_lt_of_cell q1)]; exact q1
      have e2 : wr.cell? ⟨b, off + k * 2 + 1, none⟩ = some (.int .i64 y) := by rw [bw.cell (p := ⟨b, off + k * 2 + 1, none⟩) (block_lt_of_cell q2)]; exact q2
      have hop : okPace (ps.getD k (0, 0)) = true := by
        have := HR.out
        rw [List.all_eq_true] at this
        rw [List.getD_eq_getElem?_getD, List.getElem?_eq_getElem hlt]
        exact this _ (List.getElem_mem hlt)
      rw [hxy] at hop
      simp only [okPace, decide_eq_true_eq] at hop
      obtain ⟨o1, o2, o3, o4⟩ := hop
      have hstep := run_take (s, t) ps k hlt
      rw [hxy] at hstep
      obtain ⟨u, v, huv⟩ : ∃ u v, run (s, t) (ps.take k) = (u, v) := ⟨_, _, rfl⟩
      rw [huv] at hstep g1 g2 g3 g4 cp ct hJk
      simp only at g1 g2 g3 g4 cp ct
      have HST := Lib.hid hstep
      clear hstep q1 q2
      have HX := Lib.hid hxy; clear hxy
      have HU := Lib.hid huv; clear huv
      obtain ⟨b1, b2⟩ := prod_bd (min x v) y (by omega) o3 o4
      have hJ1 : J (u, v) (wr.alloc (.cells #[.int .i64 x, .int .i64 y] 70)) := HJ.out.2 _ _ _ _ hJk ((HJ.out.1 _ _ hJk).alloc _) (KeepsOthers.alloc _ _)
      obtain ⟨fn, tmps, assign, body, hy, hR⟩ := HY.out (min x v) y _ _ ⟨by omega, by omega, o3, o4, g1, b1, by omega, by simp only; omega⟩ hJ1
      have zt : Bt < wr.heap.size := block_lt_of_cell ct
      gi_wp2
      refine hR.mono ?_
      rintro e W3 ⟨rfl, hJ3⟩
      have M3 := HJ.out.1 _ _ hJ3
      have c3 := M3.ct
      have f3 := M3.ft
      simp only [stepS] at c3
      gi_wp2
      go_roundw
      case rel =>
        refine ⟨k + 1, by omega, by go_num, ?_⟩
        rw [HST.out]
        exact HJ.out.2 _ _ _ _ hJ3 (M3.setT _ h1 h2 h4) (KeepsOthers.setCell _ _ _)
      case measure => simp [intOf]; omega
    · obtain rfl : k = ps.length := by omega
      rw [List.take_length] at g1 g2 g3 g4 hJk cp ct
      obtain ⟨u, v, huv⟩ : ∃ u v, run (s, t) ps = (u, v) := ⟨_, _, rfl⟩
      rw [huv] at g1 g2 g3 g4 cp ct hJk
      simp only at g1 g2 g3 g4 cp ct
      have HU := Lib.hid huv; clear huv
      obtain ⟨fn, tmps, assign, body, hy, hR⟩ := HY.out v 0 _ _ ⟨by omega, by omega, by omega, by omega, g1, by omega, by omega, by simp only; omega⟩ hJk
      gi_wp2
      refine hR.mono ?_
      rintro e W3 ⟨rfl, hJ3⟩
      gi_wp2
      go_end0
      exact ⟨⟨_, rfl⟩, _, by rw [HU.out]; rfl, hJ3⟩
end Go.Proofs.Ytnojnfmhinjcpaa
