import Derived.Test.YtnojnfmhinjcpaaI2
import Derived.Test.YtnojnfmhinjcpaaJ
import Derived.Test.YtnojnfmhinjcpaaW
namespace Go.Proofs.Ytnojnfmhinjcpaa
set_option linter.unusedVariables false
set_option linter.unusedSimpArgs false
open Go.RowKit Go.Shelf
attribute [local go_sem] Oper.semAt_some
set_option maxRecDepth 100000 in
set_option maxHeartbeats 2000000 in
theorem show_inA (base t : Int) (a : Option Addr) (cap : Nat) (ps : List (Int × Int)) (w : World) (hp : PacesA w a ps) (hm : ps.length ≤ 9223372036854775807)
    (hb0 : 0 ≤ base) (hb1 : base ≤ 1099511627776) (ht0 : 0 ≤ t) (ht1 : t ≤ 1099511627776) (hr : rightB ps = true) (small : Bool) (hsm : decide (showT base t ps / 1000000 ≤ 2199023255552) = small) :
    Calls Try.prog 35 #[.int .i64 base, .slice a ps.length cap, .int .i64 t] w fun e w' =>
      e = .returned (if small then .tuple #[.int .i64 (showT base t ps / 1000000), .int .i64 0] else .tuple #[.int .i64 0, .int .i64 2]) ∧ Below w.heap.size w w' := by
  refine (callsIn_wide (n := 4)).1 ?_
  refine callsIn_of_wp_marks Try.func35 rfl trivial ?_ rfl
  have HP := Lib.hid hp
  have HR := Lib.hid hr
  have hall : ps.all okPace = true := by unfold rightB at hr; simp only [Bool.and_eq_true] at hr; exact hr.1
  have HA := Lib.hid hall
  have HS := Lib.hid hsm
  obtain ⟨t0, t1⟩ := showT_bd base t ps hb0 hb1 ht0 ht1 hall
  clear hp hr hall hsm
  simp only [Try.ntmps35, List.size_toArray, List.length_cons, List.length_nil, Nat.reduceAdd, Nat.reduceSub, Array.replicate_succ, Array.replicate_zero, List.push_toArray, List.append_toArray, List.nil_append, List.cons_append]
  gi_wp2_with (gi_at_call 45; fail)
  refine ⟨trivial, ?_⟩
  refine (callsIn_wide.2 (right_anyA ps a cap _ HP.out hm)).mono ?_
  rintro e w1 ⟨rfl, hb1'⟩
  rw [HR.out]
  gi_wp2_with (gi_at_call 46; fail)
  refine ⟨trivial, ?_⟩
  refine (callsIn_wide.2 (until_mk _ _ _ _ _)).mono ?_
  rintro e w2 ⟨rfl, hw2⟩
  have z2 : w2.heap.size = w1.heap.size + 3 := by rw [hw2]; simp
  have hz1 := hb1'.size
  have M0 : Mid w w1.heap.size (w1.heap.size + 1) (w1.heap.size + 2) (.slice a ps.length cap) (base * 1000000, t) w2 := by
    rw [hw2]
    exact ⟨by simp [go_sem], by simp [go_sem], by simp [go_sem], by simp [go_sem], by simp [go_sem], hb1'.trans (by (repeat' (first | (with_reducible exact Below.refl _ _) | (with_reducible assumption) | (with_reducible refine Below.alloc ?_ ?_ _) | (with_reducible refine Below.drew ?_) | (with_reducible refine below_dn ?_) | (with_reducible refine Below.setCell ?_ ?_ _) | (with_reducible exact Nat.le_refl _) | omega | (simp only [World.size_alloc, World.size_setCell, World.size_drew]; omega) | (simp; omega) | (simp; done))))⟩
  have e2 : (w1.alloc (Obj.cells #[Value.int IntKind.i64 (base * 1000000)] 3)).heap.size = w1.heap.size + 1 := by simp
  clear hw2
  have Z2 := Lib.hid z2; clear z2
  gi_wp2
  refine range_run rfl (by omega) (gf := 48) (lb := #[.pointer (some ⟨w1.heap.size + 1, 0, none⟩), .pointer (some ⟨w1.heap.size + 2, 0, none⟩)]) rfl trivial (enters_of Try.func48 (by kernel_rfl) rfl)
    (Mid w w1.heap.size (w1.heap.size + 1) (w1.heap.size + 2) (.slice a ps.length cap)) fitS stepS (base * 1000000, t) (fun st => st.1 = showT base t ps)
    (fun s W l o o' hs hl hk ho => hs.put l o' (by have := Z2.out; omega) (by have := Z2.out; omega) (by have := Z2.out; omega) (by have := Z2.out; omega))
    (fun o o' => (M0.alloc o).alloc o')
    (until1_inA 3 (by omega) w w1.heap.size (w1.heap.size + 1) (w1.heap.size + 2) a cap ps (base * 1000000) t (by omega) (by omega) (by omega) HP.out hm (by omega) ht0 ht1 (by omega) HA.out)
    ?a1 ?assign ?body ?done
  case assign =>
    intro l x y W K hK
    gi_wp2
    exact hK
  case body =>
    rintro l x y s W ⟨f1, f2, f3, f4, f5, f6, f7, f8⟩ M
    have M' := M
    obtain ⟨cp, fp, ct, ft, cs, bw⟩ := M
    gi_wp2
    exact ⟨KeepsOthers.setCell _ _ _, M'.setP _ (by omega) (by omega) (by omega)⟩
  case done =>
    rintro D s W hD hfin M hK
    have hb9 := (M.put D (.deferred none) (by have := Z2.out; omega) (by have := Z2.out; omega) (by have := Z2.out; omega) (by have := Z2.out; omega)).bw
    obtain ⟨cp, fp, ct, ft, cs, bw⟩ := M
    rw [hfin] at cp
    have hS := HS.out
    clear HS
    cases small
    · have hS' : 2199023255552 < showT base t ps / 1000000 := by have := of_decide_eq_false hS; omega
      clear hS
      gi_wp2
      refine ⟨by simp, .inl ⟨_, _, rfl, run_takeDeferred hK, ?_⟩⟩
      exact ⟨_, results_tmp2 rfl _ _ _, rfl, hb9⟩
    · have hS' : showT base t ps / 1000000 ≤ 2199023255552 := of_decide_eq_true hS
      clear hS
      gi_wp2
      refine ⟨by simp, .inl ⟨_, _, rfl, run_takeDeferred hK, ?_⟩⟩
      exact ⟨_, results_tmp2 rfl _ _ _, rfl, hb9⟩
end Go.Proofs.Ytnojnfmhinjcpaa
