/- Contracts: Hear, Take, MayServe and Worth of program and specification. -/
import Derived.Test.YteblnmhaohbkkaaGreatDoorQLeX
import Derived.Test.YteblnmhaohbkkaaGreatDoorQLeR
import Derived.Test.YteblnmhaohbkkaaGreatDoorQHdC
import Derived.Test.YteblnmhaohbkkaaGreatDoorQSRK
import Derived.Test.YteblnmhaohbkkaaGreatDoorQSEQ
namespace Go.Proofs.YteblnmhaohbkkaaGreatDoor
set_option linter.unusedVariables false
set_option linter.unusedSimpArgs false
namespace Le
open Go.RowKit Go.Sort
def keptC (st he ls le lu lr : Int) (D : List Nat) (e : Int) : Array Value := (heldL st he ls le lu lr D ++ ([.int .i64 e] : List Value)).toArray
abbrev keptZ : Array Value := #[.int .i64 0, .int .i64 0, .int .i64 0, .int .i64 0, .int .i64 0, .int .i64 0, .int .u8 0, .int .u8 0, .int .u8 0, .int .u8 0, .int .u8 0, .int .u8 0, .int .u8 0, .int .u8 0, .int .u8 0, .int .u8 0, .int .u8 0, .int .u8 0, .int .u8 0, .int .u8 0, .int .u8 0, .int .u8 0, .int .i64 0]
theorem big_keptZ : BigR 42 keptZ := ⟨by kernel_rfl, by kernel_rfl⟩
theorem big_kept (st he ls le lu lr e : Int) {D : List Nat} (hD : D.length = 16) : BigR 42 (keptC st he ls le lu lr D e) := by
  obtain ⟨d0, d1, d2, d3, d4, d5, d6, d7, d8, d9, d10, d11, d12, d13, d14, d15, rfl⟩ := list16 hD
  exact ⟨by kernel_rfl, by kernel_rfl⟩
theorem build_kept (st he ls le lu lr e : Int) {D : List Nat} (hD : D.length = 16) (W : World) : (Instr.build 42 #[(0, .agg (heldC st he ls le lu lr D)), (1, .int .i64 e)]).run Tryz.prog W = .ok (.agg (keptC st he ls le lu lr D e)) W := by
  obtain ⟨d0, d1, d2, d3, d4, d5, d6, d7, d8, d9, d10, d11, d12, d13, d14, d15, rfl⟩ := list16 hD
  kernel_rfl
theorem build_kept0 (st he ls le lu lr : Int) {D : List Nat} (hD : D.length = 16) (W : World) : (Instr.build 42 #[(0, .agg (heldC st he ls le lu lr D))]).run Tryz.prog W = .ok (.agg (keptC st he ls le lu lr D 0)) W := by
  obtain ⟨d0, d1, d2, d3, d4, d5, d6, d7, d8, d9, d10, d11, d12, d13, d14, d15, rfl⟩ := list16 hD
  kernel_rfl
theorem held_set (st he ls le lu lr m : Int) (D : List Nat) : (heldC st he ls le lu lr D).setIfInBounds 1 (.int .i64 m) = heldC st m ls le lu lr D := by
  unfold heldC heldL
  simp
theorem wpList_build_run {P : Program} {ops : Array Oper} {rest : List Oper} {op : Oper} {a : Act} {w : World} {Q : Exit → Act → World → Prop} (hg : op.guard = none) (ty : TypeId) (parts : Array (Nat × Operand)) (ho : op.op = .build ty parts) (vals : Array (Nat × Value)) (hv : (parts.map fun (i, x) => (i, a.eval x)) = vals) (C : Array Value)
    (hr : (Instr.build ty vals).run P w = .ok (.agg C) w) (h : wpList P ops Q rest (a.put op.dst (.agg C)) w) : wpList P ops Q (op :: rest) a w :=
  wpList_plain hg fun K hK => by
    subst hv
    unfold Oper.wp execOp
    simp only [ho, Sem.run_bind, hr, Result.andThen_ok]
    exact hK _ _ h
theorem chk_out {l : List Rw} (ok : RingOk l) (r : Int) (t : Nat) (P : List ByteArray) (D : List Nat) (U : Int) (hU : U < 0 ∨ 1099511627776 ≤ U) : chkE l 1 r t P D U U = if hasC (cR 1 r) l = true then 9 else 5 := by
  unfold chkE
  by_cases hh : hasC (cR 1 r) l = true
  · rw [if_pos hh, if_pos hh, if_neg]
    obtain ⟨z1, -⟩ := find_yes hh
    have hk : keyOk (findL l 1 r) := by rw [z1]; exact ok.keys _ ((hasC_iff _ _).1 hh).1
    unfold countsB
    unfold keyOk at hk
    intro q
    have q := of_decide_eq_true q
    unfold countsP at q
    omega
  · rw [if_neg hh, if_neg hh]
set_option maxRecDepth 100000 in
set_option maxHeartbeats 4000000 in
theorem rholds_1 (st he ls le lu lr : Int) (D : List Nat) (w : World) (hD : D.length = 16)  (h1 : ¬ (0 ≤ st ∧ st < 64)) :
    Calls Tryz.prog 29 #[.agg (heldC st he ls le lu lr D)] w fun e w' => e = .returned (.bool false) ∧ Below w.heap.size w w' := by
  have SI := Lib.hid (fun (X : World) => rsite_no h1 X)
  clear h1
  have BGh := Lib.hid (show BigR 28 (heldC st he ls le lu lr D) from big_held hD)
  obtain ⟨Vh, hVh⟩ : ∃ C, heldC st he ls le lu lr D = C := ⟨_, rfl⟩
  obtain ⟨G, hG⟩ : ∃ G, w.heap.size = G := ⟨_, rfl⟩
  have HG := Lib.hid hG
  obtain ⟨w0, hw0, Kh, B⟩ : ∃ X, (w.alloc (.cells Vh 28)) = X ∧ Hid (Blk X (G) 28 (heldC st he ls le lu lr D)) ∧ Hid (Below w.heap.size w X) := ⟨_, rfl, Lib.hid (by rw [hVh]; exact Blk.new' _ _ _ _ hG rfl), Lib.hid (by (repeat' (first | (with_reducible exact Below.refl _ _) | (with_reducible assumption) | (with_reducible refine Below.alloc ?_ ?_ _) | (with_reducible refine Below.drew ?_) | (with_reducible refine below_dn ?_) | (with_reducible refine Below.setCell ?_ ?_ _) | (with_reducible exact Nat.le_refl _) | omega | (simp only [World.size_alloc, World.size_setCell, World.size_drew]; omega) | (simp; omega) | (simp; done))))⟩
  try rw [hVh]
  have EVh := Lib.hid hVh
  clear hVh
  go_enter Tryz.func29, Tryz.ntmps29
  go_upto_region 1 with (fail)
  try rw [hG]
  try rw [hw0]
  clear hw0 hG
  obtain ⟨bhc0, bhc1, bhc2⟩ := held_at Kh.out
  go_wp2_with (fail)
  refine (SI.out _).mono ?_
  rintro e w1 ⟨rfl, hb⟩
  replace Kh := Lib.hid (Kh.out.below hb Kh.out.lt)
  replace B := Lib.hid (B.out.trans (hb.mono B.out.size))
  clear bhc0 bhc1 bhc2
  clear hb
  obtain ⟨bhc0, bhc1, bhc2⟩ := held_at Kh.out
  go_wp2
  go_ret
  exact ⟨rfl, B.out⟩
set_option maxRecDepth 100000 in
set_option maxHeartbeats 4000000 in
theorem rholds_2 (st he ls le lu lr : Int) (D : List Nat) (w : World) (hD : D.length = 16) (h1 : 0 ≤ st ∧ st < 64) (h2 : ¬ (0 ≤ he)) :
    Calls Tryz.prog 29 #[.agg (heldC st he ls le lu lr D)] w fun e w' => e = .returned (.bool false) ∧ Below w.heap.size w w' := by
  have SI := Lib.hid (fun (X : World) => rsite_yes h1 X)
  have t2 : decide (0 ≤ he) = false := decide_eq_false h2
  clear h1 h2
  have BGh := Lib.hid (show BigR 28 (heldC st he ls le lu lr D) from big_held hD)
  obtain ⟨Vh, hVh⟩ : ∃ C, heldC st he ls le lu lr D = C := ⟨_, rfl⟩
  obtain ⟨G, hG⟩ : ∃ G, w.heap.size = G := ⟨_, rfl⟩
  have HG := Lib.hid hG
  obtain ⟨w0, hw0, Kh, B⟩ : ∃ X, (w.alloc (.cells Vh 28)) = X ∧ Hid (Blk X (G) 28 (heldC st he ls le lu lr D)) ∧ Hid (Below w.heap.size w X) := ⟨_, rfl, Lib.hid (by rw [hVh]; exact Blk.new' _ _ _ _ hG rfl), Lib.hid (by (repeat' (first | (with_reducible exact Below.refl _ _) | (with_reducible assumption) | (with_reducible refine Below.alloc ?_ ?_ _) | (with_reducible refine Below.drew ?_) | (with_reducible refine below_dn ?_) | (with_reducible refine Below.setCell ?_ ?_ _) | (with_reducible exact Nat.le_refl _) | omega | (simp only [World.size_alloc, World.size_setCell, World.size_drew]; omega) | (simp; omega) | (simp; done))))⟩
  try rw [hVh]
  have EVh := Lib.hid hVh
  clear hVh
  go_enter Tryz.func29, Tryz.ntmps29
  go_upto_region 1 with (fail)
  try rw [hG]
  try rw [hw0]
  clear hw0 hG
  obtain ⟨bhc0, bhc1, bhc2⟩ := held_at Kh.out
  go_wp2_with (fail)
  refine (SI.out _).mono ?_
  rintro e w1 ⟨rfl, hb⟩
  replace Kh := Lib.hid (Kh.out.below hb Kh.out.lt)
  replace B := Lib.hid (B.out.trans (hb.mono B.out.size))
  clear bhc0 bhc1 bhc2
  clear hb
  obtain ⟨bhc0, bhc1, bhc2⟩ := held_at Kh.out
  go_wp2
  go_ret
  exact ⟨rfl, B.out⟩
set_option maxRecDepth 100000 in
set_option maxHeartbeats 4000000 in
theorem rholds_3 (st he ls le lu lr : Int) (D : List Nat) (w : World) (hD : D.length = 16) (h1 : 0 ≤ st ∧ st < 64) (h2 : 0 ≤ he) (h3 : ¬ (he ≤ 1099511627776)) :
    Calls Tryz.prog 29 #[.agg (heldC st he ls le lu lr D)] w fun e w' => e = .returned (.bool false) ∧ Below w.heap.size w w' := by
  have SI := Lib.hid (fun (X : World) => rsite_yes h1 X)
  have t2 : decide (0 ≤ he) = true := decide_eq_true h2
  have t3 : decide (he ≤ 1099511627776) = false := decide_eq_false h3
  clear h1 h2 h3
  have BGh := Lib.hid (show BigR 28 (heldC st he ls le lu lr D) from big_held hD)
  obtain ⟨Vh, hVh⟩ : ∃ C, heldC st he ls le lu lr D = C := ⟨_, rfl⟩
  obtain ⟨G, hG⟩ : ∃ G, w.heap.size = G := ⟨_, rfl⟩
  have HG := Lib.hid hG
  obtain ⟨w0, hw0, Kh, B⟩ : ∃ X, (w.alloc (.cells Vh 28)) = X ∧ Hid (Blk X (G) 28 (heldC st he ls le lu lr D)) ∧ Hid (Below w.heap.size w X) := ⟨_, rfl, Lib.hid (by rw [hVh]; exact Blk.new' _ _ _ _ hG rfl), Lib.hid (by (repeat' (first | (with_reducible exact Below.refl _ _) | (with_reducible assumption) | (with_reducible refine Below.alloc ?_ ?_ _) | (with_reducible refine Below.drew ?_) | (with_reducible refine below_dn ?_) | (with_reducible refine Below.setCell ?_ ?_ _) | (with_reducible exact Nat.le_refl _) | omega | (simp only [World.size_alloc, World.size_setCell, World.size_drew]; omega) | (simp; omega) | (simp; done))))⟩
  try rw [hVh]
  have EVh := Lib.hid hVh
  clear hVh
  go_enter Tryz.func29, Tryz.ntmps29
  go_upto_region 1 with (fail)
  try rw [hG]
  try rw [hw0]
  clear hw0 hG
  obtain ⟨bhc0, bhc1, bhc2⟩ := held_at Kh.out
  go_wp2_with (fail)
  refine (SI.out _).mono ?_
  rintro e w1 ⟨rfl, hb⟩
  replace Kh := Lib.hid (Kh.out.below hb Kh.out.lt)
  replace B := Lib.hid (B.out.trans (hb.mono B.out.size))
  clear bhc0 bhc1 bhc2
  clear hb
  obtain ⟨bhc0, bhc1, bhc2⟩ := held_at Kh.out
  go_wp2
  go_ret
  exact ⟨rfl, B.out⟩
set_option maxRecDepth 100000 in
set_option maxHeartbeats 4000000 in
theorem rholds_4 (st he ls le lu lr : Int) (D : List Nat) (w : World) (hD : D.length = 16) (h1 : 0 ≤ st ∧ st < 64) (h2 : 0 ≤ he) (h3 : he ≤ 1099511627776) (h4 : ¬ (0 ≤ lu)) :
    Calls Tryz.prog 29 #[.agg (heldC st he ls le lu lr D)] w fun e w' => e = .returned (.bool false) ∧ Below w.heap.size w w' := by
  have SI := Lib.hid (fun (X : World) => rsite_yes h1 X)
  have t2 : decide (0 ≤ he) = true := decide_eq_true h2
  have t3 : decide (he ≤ 1099511627776) = true := decide_eq_true h3
  have t4 : decide (0 ≤ lu) = false := decide_eq_false h4
  clear h1 h2 h3 h4
  have BGh := Lib.hid (show BigR 28 (heldC st he ls le lu lr D) from big_held hD)
  obtain ⟨Vh, hVh⟩ : ∃ C, heldC st he ls le lu lr D = C := ⟨_, rfl⟩
  obtain ⟨G, hG⟩ : ∃ G, w.heap.size = G := ⟨_, rfl⟩
  have HG := Lib.hid hG
  obtain ⟨w0, hw0, Kh, B⟩ : ∃ X, (w.alloc (.cells Vh 28)) = X ∧ Hid (Blk X (G) 28 (heldC st he ls le lu lr D)) ∧ Hid (Below w.heap.size w X) := ⟨_, rfl, Lib.hid (by rw [hVh]; exact Blk.new' _ _ _ _ hG rfl), Lib.hid (by (repeat' (first | (with_reducible exact Below.refl _ _) | (with_reducible assumption) | (with_reducible refine Below.alloc ?_ ?_ _) | (with_reducible refine Below.drew ?_) | (with_reducible refine below_dn ?_) | (with_reducible refine Below.setCell ?_ ?_ _) | (with_reducible exact Nat.le_refl _) | omega | (simp only [World.size_alloc, World.size_setCell, World.size_drew]; omega) | (simp; omega) | (simp; done))))⟩
  try rw [hVh]
  have EVh := Lib.hid hVh
  clear hVh
  go_enter Tryz.func29, Tryz.ntmps29
  go_upto_region 1 with (fail)
  try rw [hG]
  try rw [hw0]
  clear hw0 hG
  obtain ⟨bhc0, bhc1, bhc2⟩ := held_at Kh.out
  go_wp2_with (fail)
  refine (SI.out _).mono ?_
  rintro e w1 ⟨rfl, hb⟩
  replace Kh := Lib.hid (Kh.out.below hb Kh.out.lt)
  replace B := Lib.hid (B.out.trans (hb.mono B.out.size))
  clear bhc0 bhc1 bhc2
  clear hb
  obtain ⟨bhc0, bhc1, bhc2⟩ := held_at Kh.out
  go_wp2
  go_ret
  exact ⟨rfl, B.out⟩
set_option maxRecDepth 100000 in
set_option maxHeartbeats 4000000 in
theorem rholds_5 (st he ls le lu lr : Int) (D : List Nat) (w : World) (hD : D.length = 16) (h1 : 0 ≤ st ∧ st < 64) (h2 : 0 ≤ he) (h3 : he ≤ 1099511627776) (h4 : 0 ≤ lu) (h5 : ¬ (lu ≤ 1099511627776)) :
    Calls Tryz.prog 29 #[.agg (heldC st he ls le lu lr D)] w fun e w' => e = .returned (.bool false) ∧ Below w.heap.size w w' := by
  have SI := Lib.hid (fun (X : World) => rsite_yes h1 X)
  have t2 : decide (0 ≤ he) = true := decide_eq_true h2
  have t3 : decide (he ≤ 1099511627776) = true := decide_eq_true h3
  have t4 : decide (0 ≤ lu) = true := decide_eq_true h4
  have t5 : decide (lu ≤ 1099511627776) = false := decide_eq_false h5
  clear h1 h2 h3 h4 h5
  have BGh := Lib.hid (show BigR 28 (heldC st he ls le lu lr D) from big_held hD)
  obtain ⟨Vh, hVh⟩ : ∃ C, heldC st he ls le lu lr D = C := ⟨_, rfl⟩
  obtain ⟨G, hG⟩ : ∃ G, w.heap.size = G := ⟨_, rfl⟩
  have HG := Lib.hid hG
  obtain ⟨w0, hw0, Kh, B⟩ : ∃ X, (w.alloc (.cells Vh 28)) = X ∧ Hid (Blk X (G) 28 (heldC st he ls le lu lr D)) ∧ Hid (Below w.heap.size w X) := ⟨_, rfl, Lib.hid (by rw [hVh]; exact Blk.new' _ _ _ _ hG rfl), Lib.hid (by (repeat' (first | (with_reducible exact Below.refl _ _) | (with_reducible assumption) | (with_reducible refine Below.alloc ?_ ?_ _) | (with_reducible refine Below.drew ?_) | (with_reducible refine below_dn ?_) | (with_reducible refine Below.setCell ?_ ?_ _) | (with_reducible exact Nat.le_refl _) | omega | (simp only [World.size_alloc, World.size_setCell, World.size_drew]; omega) | (simp; omega) | (simp; done))))⟩
  try rw [hVh]
  have EVh := Lib.hid hVh
  clear hVh
  go_enter Tryz.func29, Tryz.ntmps29
  go_upto_region 1 with (fail)
  try rw [hG]
  try rw [hw0]
  clear hw0 hG
  obtain ⟨bhc0, bhc1, bhc2⟩ := held_at Kh.out
  go_wp2_with (fail)
  refine (SI.out _).mono ?_
  rintro e w1 ⟨rfl, hb⟩
  replace Kh := Lib.hid (Kh.out.below hb Kh.out.lt)
  replace B := Lib.hid (B.out.trans (hb.mono B.out.size))
  clear bhc0 bhc1 bhc2
  clear hb
  obtain ⟨bhc0, bhc1, bhc2⟩ := held_at Kh.out
  go_wp2
  go_ret
  exact ⟨rfl, B.out⟩
set_option maxRecDepth 100000 in
set_option maxHeartbeats 4000000 in
theorem rholds_0 (st he ls le lu lr : Int) (D : List Nat) (w : World) (hD : D.length = 16) (h1 : 0 ≤ st ∧ st < 64) (h2 : 0 ≤ he) (h3 : he ≤ 1099511627776) (h4 : 0 ≤ lu) (h5 : lu ≤ 1099511627776) :
    Calls Tryz.prog 29 #[.agg (heldC st he ls le lu lr D)] w fun e w' => e = .returned (.bool true) ∧ Below w.heap.size w w' := by
  have SI := Lib.hid (fun (X : World) => rsite_yes h1 X)
  have t2 : decide (0 ≤ he) = true := decide_eq_true h2
  have t3 : decide (he ≤ 1099511627776) = true := decide_eq_true h3
  have t4 : decide (0 ≤ lu) = true := decide_eq_true h4
  have t5 : decide (lu ≤ 1099511627776) = true := decide_eq_true h5
  clear h1 h2 h3 h4 h5
  have BGh := Lib.hid (show BigR 28 (heldC st he ls le lu lr D) from big_held hD)
  obtain ⟨Vh, hVh⟩ : ∃ C, heldC st he ls le lu lr D = C := ⟨_, rfl⟩
  obtain ⟨G, hG⟩ : ∃ G, w.heap.size = G := ⟨_, rfl⟩
  have HG := Lib.hid hG
  obtain ⟨w0, hw0, Kh, B⟩ : ∃ X, (w.alloc (.cells Vh 28)) = X ∧ Hid (Blk X (G) 28 (heldC st he ls le lu lr D)) ∧ Hid (Below w.heap.size w X) := ⟨_, rfl, Lib.hid (by rw [hVh]; exact Blk.new' _ _ _ _ hG rfl), Lib.hid (by (repeat' (first | (with_reducible exact Below.refl _ _) | (with_reducible assumption) | (with_reducible refine Below.alloc ?_ ?_ _) | (with_reducible refine Below.drew ?_) | (with_reducible refine below_dn ?_) | (with_reducible refine Below.setCell ?_ ?_ _) | (with_reducible exact Nat.le_refl _) | omega | (simp only [World.size_alloc, World.size_setCell, World.size_drew]; omega) | (simp; omega) | (simp; done))))⟩
  try rw [hVh]
  have EVh := Lib.hid hVh
  clear hVh
  go_enter Tryz.func29, Tryz.ntmps29
  go_upto_region 1 with (fail)
  try rw [hG]
  try rw [hw0]
  clear hw0 hG
  obtain ⟨bhc0, bhc1, bhc2⟩ := held_at Kh.out
  go_wp2_with (fail)
  refine (SI.out _).mono ?_
  rintro e w1 ⟨rfl, hb⟩
  replace Kh := Lib.hid (Kh.out.below hb Kh.out.lt)
  replace B := Lib.hid (B.out.trans (hb.mono B.out.size))
  clear bhc0 bhc1 bhc2
  clear hb
  obtain ⟨bhc0, bhc1, bhc2⟩ := held_at Kh.out
  go_wp2
  go_ret
  exact ⟨rfl, B.out⟩
theorem rholds_any (st he ls le lu lr : Int) (D : List Nat) (w : World) (hD : D.length = 16) : Calls Tryz.prog 29 #[.agg (heldC st he ls le lu lr D)] w fun e w' => e = .returned (.bool (decide (HeldOk st he lu))) ∧ Below w.heap.size w w' := by
  by_cases h1 : 0 ≤ st ∧ st < 64
  rotate_left
  · rw [decide_eq_false (fun q : HeldOk st he lu => h1 q.1)]; exact rholds_1 st he ls le lu lr D w hD h1
  by_cases h2 : 0 ≤ he
  rotate_left
  · rw [decide_eq_false (fun q : HeldOk st he lu => h2 q.2.1.1)]; exact rholds_2 st he ls le lu lr D w hD h1 h2
  by_cases h3 : he ≤ 1099511627776
  rotate_left
  · rw [decide_eq_false (fun q : HeldOk st he lu => h3 q.2.1.2)]; exact rholds_3 st he ls le lu lr D w hD h1 h2 h3
  by_cases h4 : 0 ≤ lu
  rotate_left
  · rw [decide_eq_false (fun q : HeldOk st he lu => h4 q.2.2.1)]; exact rholds_4 st he ls le lu lr D w hD h1 h2 h3 h4
  by_cases h5 : lu ≤ 1099511627776
  rotate_left
  · rw [decide_eq_false (fun q : HeldOk st he lu => h5 q.2.2.2)]; exact rholds_5 st he ls le lu lr D w hD h1 h2 h3 h4 h5
  rw [decide_eq_true (show HeldOk st he lu from ⟨h1, ⟨h2, h3⟩, h4, h5⟩)]
  exact rholds_0 st he ls le lu lr D w hD h1 h2 h3 h4 h5
set_option maxRecDepth 100000 in
set_option maxHeartbeats 4000000 in
theorem rserve_n1 (st he ls le lu lr lo hi : Int) (D : List Nat) (w : World) (hD : D.length = 16) (h1 : decide (HeldOk st he lu) = false) :
    Calls Tryz.prog 13 #[.agg (heldC st he ls le lu lr D), per lo hi] w fun e w' => e = .returned (.bool false) ∧ Below w.heap.size w w' := by
  have C1 := Lib.hid (fun W => rholds_any st he ls le lu lr D W hD)
  rw [h1] at C1
  clear h1
  have BGh := Lib.hid (show BigR 28 (heldC st he ls le lu lr D) from big_held hD)
  obtain ⟨Vh, hVh⟩ : ∃ C, heldC st he ls le lu lr D = C := ⟨_, rfl⟩
  obtain ⟨G, hG⟩ : ∃ G, w.heap.size = G := ⟨_, rfl⟩
  have HG := Lib.hid hG
  obtain ⟨w0, hw0, Kh, Kp, B⟩ : ∃ X, ((w.alloc (.cells Vh 28)).alloc (.cells #[.int .i64 lo, .int .i64 hi] 30)) = X ∧ Hid (Blk X (G) 28 (heldC st he ls le lu lr D)) ∧ Hid (Blk X (G + 1) 30 #[.int .i64 lo, .int .i64 hi]) ∧ Hid (Below w.heap.size w X) := ⟨_, rfl, Lib.hid (by rw [hVh]; exact (Blk.new' _ _ _ _ hG rfl).alloc _), Lib.hid (Blk.new' _ _ _ _ (by rw [World.size_alloc, hG]) rfl), Lib.hid (by (repeat' (first | (with_reducible exact Below.refl _ _) | (with_reducible assumption) | (with_reducible refine Below.alloc ?_ ?_ _) | (with_reducible refine Below.drew ?_) | (with_reducible refine below_dn ?_) | (with_reducible refine Below.setCell ?_ ?_ _) | (with_reducible exact Nat.le_refl _) | omega | (simp only [World.size_alloc, World.size_setCell, World.size_drew]; omega) | (simp; omega) | (simp; done))))⟩
  try rw [hVh]
  have EVh := Lib.hid hVh
  clear hVh
  go_enter Tryz.func13, Tryz.ntmps13
  go_upto_region 1 with (fail)
  try rw [hG]
  try rw [hw0]
  clear hw0 hG
  obtain ⟨bhc0, bhc1, bhc2⟩ := held_at Kh.out
  obtain ⟨bpc0, bpc1⟩ := twob Kp.out
  go_wp2_with (first | (with_reducible refine Hs.wpList_load_all rfl 28 _ rfl (G) rfl 28 (heldC st he ls le lu lr D) _ (Blk.hs Kh.out) Tryz.underlying28 BGh.out.info ?_))
  refine (C1.out _).mono ?_
  rintro e w1 ⟨rfl, hb⟩
  replace Kh := Lib.hid (Kh.out.below hb Kh.out.lt)
  replace Kp := Lib.hid (Kp.out.below hb Kp.out.lt)
  replace B := Lib.hid (B.out.trans (hb.mono B.out.size))
  clear bhc0 bhc1 bhc2 bpc0 bpc1
  clear hb
  obtain ⟨bhc0, bhc1, bhc2⟩ := held_at Kh.out
  obtain ⟨bpc0, bpc1⟩ := twob Kp.out
  go_wp2
  go_ret
  exact ⟨rfl, B.out⟩
set_option maxRecDepth 100000 in
set_option maxHeartbeats 4000000 in
theorem rserve_n2 (st he ls le lu lr lo hi : Int) (D : List Nat) (w : World) (hD : D.length = 16) (h1 : decide (HeldOk st he lu) = true) (h2 : perB lo hi = false) :
    Calls Tryz.prog 13 #[.agg (heldC st he ls le lu lr D), per lo hi] w fun e w' => e = .returned (.bool false) ∧ Below w.heap.size w w' := by
  have C1 := Lib.hid (fun W => rholds_any st he ls le lu lr D W hD)
  rw [h1] at C1
  have C2 := Lib.hid (fun W => period_ref lo hi W)
  rw [h2] at C2
  clear h1 h2
  have BGh := Lib.hid (show BigR 28 (heldC st he ls le lu lr D) from big_held hD)
  obtain ⟨Vh, hVh⟩ : ∃ C, heldC st he ls le lu lr D = C := ⟨_, rfl⟩
  obtain ⟨G, hG⟩ : ∃ G, w.heap.size = G := ⟨_, rfl⟩
  have HG := Lib.hid hG
  obtain ⟨w0, hw0, Kh, Kp, B⟩ : ∃ X, ((w.alloc (.cells Vh 28)).alloc (.cells #[.int .i64 lo, .int .i64 hi] 30)) = X ∧ Hid (Blk X (G) 28 (heldC st he ls le lu lr D)) ∧ Hid (Blk X (G + 1) 30 #[.int .i64 lo, .int .i64 hi]) ∧ Hid (Below w.heap.size w X) := ⟨_, rfl, Lib.hid (by rw [hVh]; exact (Blk.new' _ _ _ _ hG rfl).alloc _), Lib.hid (Blk.new' _ _ _ _ (by rw [World.size_alloc, hG]) rfl), Lib.hid (by (repeat' (first | (with_reducible exact Below.refl _ _) | (with_reducible assumption) | (with_reducible refine Below.alloc ?_ ?_ _) | (with_reducible refine Below.drew ?_) | (with_reducible refine below_dn ?_) | (with_reducible refine Below.setCell ?_ ?_ _) | (with_reducible exact Nat.le_refl _) | omega | (simp only [World.size_alloc, World.size_setCell, World.size_drew]; omega) | (simp; omega) | (simp; done))))⟩
  try rw [hVh]
  have EVh := Lib.hid hVh
  clear hVh
  go_enter Tryz.func13, Tryz.ntmps13
  go_upto_region 1 with (fail)
  try rw [hG]
  try rw [hw0]
  clear hw0 hG
  obtain ⟨bhc0, bhc1, bhc2⟩ := held_at Kh.out
  obtain ⟨bpc0, bpc1⟩ := twob Kp.out
  go_wp2_with (first | (with_reducible refine Hs.wpList_load_all rfl 28 _ rfl (G) rfl 28 (heldC st he ls le lu lr D) _ (Blk.hs Kh.out) Tryz.underlying28 BGh.out.info ?_))
  refine (C1.out _).mono ?_
  rintro e w1 ⟨rfl, hb⟩
  replace Kh := Lib.hid (Kh.out.below hb Kh.out.lt)
  replace Kp := Lib.hid (Kp.out.below hb Kp.out.lt)
  replace B := Lib.hid (B.out.trans (hb.mono B.out.size))
  clear bhc0 bhc1 bhc2 bpc0 bpc1
  clear hb
  obtain ⟨bhc0, bhc1, bhc2⟩ := held_at Kh.out
  obtain ⟨bpc0, bpc1⟩ := twob Kp.out
  go_wp2_with (fail)
  refine (C2.out _).mono ?_
  rintro e w2 ⟨rfl, hb⟩
  replace Kh := Lib.hid (Kh.out.below hb Kh.out.lt)
  replace Kp := Lib.hid (Kp.out.below hb Kp.out.lt)
  replace B := Lib.hid (B.out.trans (hb.mono B.out.size))
  clear bhc0 bhc1 bhc2 bpc0 bpc1
  clear hb
  obtain ⟨bhc0, bhc1, bhc2⟩ := held_at Kh.out
  obtain ⟨bpc0, bpc1⟩ := twob Kp.out
  go_wp2
  go_ret
  exact ⟨rfl, B.out⟩
set_option maxRecDepth 100000 in
set_option maxHeartbeats 4000000 in
theorem rserve_y (st he ls le lu lr lo hi : Int) (D : List Nat) (w : World) (hD : D.length = 16) (h1 : decide (HeldOk st he lu) = true) (h2 : perB lo hi = true) :
    Calls Tryz.prog 13 #[.agg (heldC st he ls le lu lr D), per lo hi] w fun e w' => e = .returned (.bool (decide (hi < lu))) ∧ Below w.heap.size w w' := by
  have C1 := Lib.hid (fun W => rholds_any st he ls le lu lr D W hD)
  rw [h1] at C1
  have C2 := Lib.hid (fun W => period_ref lo hi W)
  rw [h2] at C2
  clear h1 h2
  have BGh := Lib.hid (show BigR 28 (heldC st he ls le lu lr D) from big_held hD)
  obtain ⟨Vh, hVh⟩ : ∃ C, heldC st he ls le lu lr D = C := ⟨_, rfl⟩
  obtain ⟨G, hG⟩ : ∃ G, w.heap.size = G := ⟨_, rfl⟩
  have HG := Lib.hid hG
  obtain ⟨w0, hw0, Kh, Kp, B⟩ : ∃ X, ((w.alloc (.cells Vh 28)).alloc (.cells #[.int .i64 lo, .int .i64 hi] 30)) = X ∧ Hid (Blk X (G) 28 (heldC st he ls le lu lr D)) ∧ Hid (Blk X (G + 1) 30 #[.int .i64 lo, .int .i64 hi]) ∧ Hid (Below w.heap.size w X) := ⟨_, rfl, Lib.hid (by rw [hVh]; exact (Blk.new' _ _ _ _ hG rfl).alloc _), Lib.hid (Blk.new' _ _ _ _ (by rw [World.size_alloc, hG]) rfl), Lib.hid (by (repeat' (first | (with_reducible exact Below.refl _ _) | (with_reducible assumption) | (with_reducible refine Below.alloc ?_ ?_ _) | (with_reducible refine Below.drew ?_) | (with_reducible refine below_dn ?_) | (with_reducible refine Below.setCell ?_ ?_ _) | (with_reducible exact Nat.le_refl _) | omega | (simp only [World.size_alloc, World.size_setCell, World.size_drew]; omega) | (simp; omega) | (simp; done))))⟩
  try rw [hVh]
  have EVh := Lib.hid hVh
  clear hVh
  go_enter Tryz.func13, Tryz.ntmps13
  go_upto_region 1 with (fail)
  try rw [hG]
  try rw [hw0]
  clear hw0 hG
  obtain ⟨bhc0, bhc1, bhc2⟩ := held_at Kh.out
  obtain ⟨bpc0, bpc1⟩ := twob Kp.out
  go_wp2_with (first | (with_reducible refine Hs.wpList_load_all rfl 28 _ rfl (G) rfl 28 (heldC st he ls le lu lr D) _ (Blk.hs Kh.out) Tryz.underlying28 BGh.out.info ?_))
  refine (C1.out _).mono ?_
  rintro e w1 ⟨rfl, hb⟩
  replace Kh := Lib.hid (Kh.out.below hb Kh.out.lt)
  replace Kp := Lib.hid (Kp.out.below hb Kp.out.lt)
  replace B := Lib.hid (B.out.trans (hb.mono B.out.size))
  clear bhc0 bhc1 bhc2 bpc0 bpc1
  clear hb
  obtain ⟨bhc0, bhc1, bhc2⟩ := held_at Kh.out
  obtain ⟨bpc0, bpc1⟩ := twob Kp.out
  go_wp2_with (fail)
  refine (C2.out _).mono ?_
  rintro e w2 ⟨rfl, hb⟩
  replace Kh := Lib.hid (Kh.out.below hb Kh.out.lt)
  replace Kp := Lib.hid (Kp.out.below hb Kp.out.lt)
  replace B := Lib.hid (B.out.trans (hb.mono B.out.size))
  clear bhc0 bhc1 bhc2 bpc0 bpc1
  clear hb
  obtain ⟨bhc0, bhc1, bhc2⟩ := held_at Kh.out
  obtain ⟨bpc0, bpc1⟩ := twob Kp.out
  go_wp2
  go_ret
  exact ⟨rfl, B.out⟩
theorem rserve_any (st he ls le lu lr lo hi : Int) (D : List Nat) (w : World) (hD : D.length = 16) : Calls Tryz.prog 13 #[.agg (heldC st he ls le lu lr D), per lo hi] w fun e w' => e = .returned (.bool (serveB st he lu lo hi)) ∧ Below w.heap.size w w' := by
  unfold serveB
  cases h1 : decide (HeldOk st he lu) with
  | false => exact rserve_n1 st he ls le lu lr lo hi D w hD h1
  | true =>
    cases h2 : perB lo hi with
    | false => exact rserve_n2 st he ls le lu lr lo hi D w hD h1 h2
    | true => exact rserve_y st he ls le lu lr lo hi D w hD h1 h2
set_option maxRecDepth 100000 in
set_option maxHeartbeats 4000000 in
theorem hear_n1 (st he ls le lu lr ep : Int) (D : List Nat) (w : World) (hD : D.length = 16) (h1 : ¬ HeldOk st he lu) :
    Calls Tryz.prog 6 #[.agg (heldC st he ls le lu lr D), .int .i64 ep] w fun e w' => e = .returned (.tuple #[.agg (heldC st he ls le lu lr D), .int .i64 1]) ∧ Below w.heap.size w w' := by
  have C1 := Lib.hid (fun W => held_any st he ls le lu lr D W hD)
  rw [decide_eq_false h1] at C1
  have BO := Lib.hid (big_held (st := st) (he := he) (ls := ls) (le := le) (lu := lu) (lr := lr) hD)
  clear h1
  have BGh := Lib.hid (show BigR 28 (heldC st he ls le lu lr D) from big_held hD)
  obtain ⟨Vh, hVh⟩ : ∃ C, heldC st he ls le lu lr D = C := ⟨_, rfl⟩
  obtain ⟨G, hG⟩ : ∃ G, w.heap.size = G := ⟨_, rfl⟩
  have HG := Lib.hid hG
  have BGr := Lib.hid (show BigR 28 (heldZ) from big_heldZ)
  obtain ⟨w0, hw0, Kh, Kr, B⟩ : ∃ X, ((w.alloc (.cells Vh 28)).alloc (.cells #[.int .i64 0, .int .i64 0, .int .i64 0, .int .i64 0, .int .i64 0, .int .i64 0, .int .u8 0, .int .u8 0, .int .u8 0, .int .u8 0, .int .u8 0, .int .u8 0, .int .u8 0, .int .u8 0, .int .u8 0, .int .u8 0, .int .u8 0, .int .u8 0, .int .u8 0, .int .u8 0, .int .u8 0, .int .u8 0] 28)) = X ∧ Hid (Blk X (G) 28 (heldC st he ls le lu lr D)) ∧ Hid (Blk X (G + 1) 28 (heldZ)) ∧ Hid (Below w.heap.size w X) := ⟨_, rfl, Lib.hid (by rw [hVh]; exact (Blk.new' _ _ _ _ hG rfl).alloc _), Lib.hid (Blk.new' _ _ _ _ (by rw [World.size_alloc, hG]) rfl), Lib.hid (by (repeat' (first | (with_reducible exact Below.refl _ _) | (with_reducible assumption) | (with_reducible refine Below.alloc ?_ ?_ _) | (with_reducible refine Below.drew ?_) | (with_reducible refine below_dn ?_) | (with_reducible refine Below.setCell ?_ ?_ _) | (with_reducible exact Nat.le_refl _) | omega | (simp only [World.size_alloc, World.size_setCell, World.size_drew]; omega) | (simp; omega) | (simp; done))))⟩
  try rw [hVh]
  have EVh := Lib.hid hVh
  clear hVh
  go_enter Tryz.func6, Tryz.ntmps6
  go_upto_region 1 with (fail)
  try rw [hG]
  try rw [hw0]
  clear hw0 hG
  obtain ⟨bhc0, bhc1, bhc2⟩ := held_at Kh.out
  go_wp2_with (first | (with_reducible refine Hs.wpList_load_all rfl 28 _ rfl (G) rfl 28 (heldC st he ls le lu lr D) _ (Blk.hs Kh.out) Tryz.underlying28 BGh.out.info ?_))
  refine (C1.out _).mono ?_
  rintro e w1 ⟨rfl, hb⟩
  replace Kh := Lib.hid (Kh.out.below hb Kh.out.lt)
  replace Kr := Lib.hid (Kr.out.below hb Kr.out.lt)
  replace B := Lib.hid (B.out.trans (hb.mono B.out.size))
  clear bhc0 bhc1 bhc2
  clear hb
  obtain ⟨bhc0, bhc1, bhc2⟩ := held_at Kh.out
  go_wp2_with (first | (with_reducible refine Hs.wpList_store_blk rfl 28 _ _ rfl (G + 1) 28 _ (heldC st he ls le lu lr D) rfl rfl (Blk.hs Kr.out) BO.out.info (BGr.out.same BO.out) BO.out.one rfl ?_) | (with_reducible refine Hs.wpList_load_all rfl 28 _ rfl (G) rfl 28 (heldC st he ls le lu lr D) _ (Blk.hs Kh.out) Tryz.underlying28 BGh.out.info ?_))
  refine bodyPost_ret (results_row_tmp rfl _ _ (G + 1) 28 (heldC st he ls le lu lr D) (0, 0) _ rfl (Kr.out.row_ _) Tryz.underlying28 rfl BO.out.info) rfl ?_
  have B9 := below_setRow B.out (show w.heap.size ≤ G + 1 by have := HG.out; omega) (heldC st he ls le lu lr D)
  exact ⟨by rw [← EVh.out]; rfl, B9⟩
set_option maxRecDepth 100000 in
set_option maxHeartbeats 4000000 in
theorem hear_n2 (st he ls le lu lr ep : Int) (D : List Nat) (w : World) (hD : D.length = 16) (h1 : HeldOk st he lu) (h2 : ¬ (0 ≤ ep ∧ ep ≤ 1099511627776)) :
    Calls Tryz.prog 6 #[.agg (heldC st he ls le lu lr D), .int .i64 ep] w fun e w' => e = .returned (.tuple #[.agg (heldC st he ls le lu lr D), .int .i64 1]) ∧ Below w.heap.size w w' := by
  have C1 := Lib.hid (fun W => held_any st he ls le lu lr D W hD)
  rw [decide_eq_true h1] at C1
  have C2 := Lib.hid (fun W => within_no h2 W)
  have BO := Lib.hid (big_held (st := st) (he := he) (ls := ls) (le := le) (lu := lu) (lr := lr) hD)
  clear h1 h2
  have BGh := Lib.hid (show BigR 28 (heldC st he ls le lu lr D) from big_held hD)
  obtain ⟨Vh, hVh⟩ : ∃ C, heldC st he ls le lu lr D = C := ⟨_, rfl⟩
  obtain ⟨G, hG⟩ : ∃ G, w.heap.size = G := ⟨_, rfl⟩
  have HG := Lib.hid hG
  have BGr := Lib.hid (show BigR 28 (heldZ) from big_heldZ)
  obtain ⟨w0, hw0, Kh, Kr, B⟩ : ∃ X, ((w.alloc (.cells Vh 28)).alloc (.cells #[.int .i64 0, .int .i64 0, .int .i64 0, .int .i64 0, .int .i64 0, .int .i64 0, .int .u8 0, .int .u8 0, .int .u8 0, .int .u8 0, .int .u8 0, .int .u8 0, .int .u8 0, .int .u8 0, .int .u8 0, .int .u8 0, .int .u8 0, .int .u8 0, .int .u8 0, .int .u8 0, .int .u8 0, .int .u8 0] 28)) = X ∧ Hid (Blk X (G) 28 (heldC st he ls le lu lr D)) ∧ Hid (Blk X (G + 1) 28 (heldZ)) ∧ Hid (Below w.heap.size w X) := ⟨_, rfl, Lib.hid (by rw [hVh]; exact (Blk.new' _ _ _ _ hG rfl).alloc _), Lib.hid (Blk.new' _ _ _ _ (by rw [World.size_alloc, hG]) rfl), Lib.hid (by (repeat' (first | (with_reducible exact Below.refl _ _) | (with_reducible assumption) | (with_reducible refine Below.alloc ?_ ?_ _) | (with_reducible refine Below.drew ?_) | (with_reducible refine below_dn ?_) | (with_reducible refine Below.setCell ?_ ?_ _) | (with_reducible exact Nat.le_refl _) | omega | (simp only [World.size_alloc, World.size_setCell, World.size_drew]; omega) | (simp; omega) | (simp; done))))⟩
  try rw [hVh]
  have EVh := Lib.hid hVh
  clear hVh
  go_enter Tryz.func6, Tryz.ntmps6
  go_upto_region 1 with (fail)
  try rw [hG]
  try rw [hw0]
  clear hw0 hG
  obtain ⟨bhc0, bhc1, bhc2⟩ := held_at Kh.out
  go_wp2_with (first | (with_reducible refine Hs.wpList_load_all rfl 28 _ rfl (G) rfl 28 (heldC st he ls le lu lr D) _ (Blk.hs Kh.out) Tryz.underlying28 BGh.out.info ?_))
  refine (C1.out _).mono ?_
  rintro e w1 ⟨rfl, hb⟩
  replace Kh := Lib.hid (Kh.out.below hb Kh.out.lt)
  replace Kr := Lib.hid (Kr.out.below hb Kr.out.lt)
  replace B := Lib.hid (B.out.trans (hb.mono B.out.size))
  clear bhc0 bhc1 bhc2
  clear hb
  obtain ⟨bhc0, bhc1, bhc2⟩ := held_at Kh.out
  go_wp2_with (fail)
  refine (C2.out _).mono ?_
  rintro e wz ⟨rfl, rfl⟩
  go_wp2_with (first | (with_reducible refine Hs.wpList_store_blk rfl 28 _ _ rfl (G + 1) 28 _ (heldC st he ls le lu lr D) rfl rfl (Blk.hs Kr.out) BO.out.info (BGr.out.same BO.out) BO.out.one rfl ?_) | (with_reducible refine Hs.wpList_load_all rfl 28 _ rfl (G) rfl 28 (heldC st he ls le lu lr D) _ (Blk.hs Kh.out) Tryz.underlying28 BGh.out.info ?_))
  refine bodyPost_ret (results_row_tmp rfl _ _ (G + 1) 28 (heldC st he ls le lu lr D) (0, 0) _ rfl (Kr.out.row_ _) Tryz.underlying28 rfl BO.out.info) rfl ?_
  have B9 := below_setRow B.out (show w.heap.size ≤ G + 1 by have := HG.out; omega) (heldC st he ls le lu lr D)
  exact ⟨by rw [← EVh.out]; rfl, B9⟩
set_option maxRecDepth 100000 in
set_option maxHeartbeats 4000000 in
theorem hear_ok (st he ls le lu lr ep : Int) (D : List Nat) (w : World) (hD : D.length = 16) (h1 : HeldOk st he lu) (h2 : 0 ≤ ep ∧ ep ≤ 1099511627776) :
    Calls Tryz.prog 6 #[.agg (heldC st he ls le lu lr D), .int .i64 ep] w fun e w' => e = .returned (.tuple #[.agg (heldC st (max he ep) ls le lu lr D), .int .i64 0]) ∧ Below w.heap.size w w' := by
  have C1 := Lib.hid (fun W => held_any st he ls le lu lr D W hD)
  rw [decide_eq_true h1] at C1
  have C2 := Lib.hid (fun W => within_yes h2 W)
  have BO := Lib.hid (big_held (st := st) (he := he) (ls := ls) (le := le) (lu := lu) (lr := lr) hD)
  obtain ⟨m, hm⟩ : ∃ m, max he ep = m := ⟨_, rfl⟩
  have BN := Lib.hid (big_held (st := st) (he := m) (ls := ls) (le := le) (lu := lu) (lr := lr) hD)
  have HS := Lib.hid (held_set st he ls le lu lr m D)
  have HM := Lib.hid hm
  rw [hm]
  clear h1 h2 hm
  have BGh := Lib.hid (show BigR 28 (heldC st he ls le lu lr D) from big_held hD)
  obtain ⟨Vh, hVh⟩ : ∃ C, heldC st he ls le lu lr D = C := ⟨_, rfl⟩
  obtain ⟨G, hG⟩ : ∃ G, w.heap.size = G := ⟨_, rfl⟩
  have HG := Lib.hid hG
  have BGr := Lib.hid (show BigR 28 (heldZ) from big_heldZ)
  obtain ⟨w0, hw0, Kh, Kr, B⟩ : ∃ X, ((w.alloc (.cells Vh 28)).alloc (.cells #[.int .i64 0, .int .i64 0, .int .i64 0, .int .i64 0, .int .i64 0, .int .i64 0, .int .u8 0, .int .u8 0, .int .u8 0, .int .u8 0, .int .u8 0, .int .u8 0, .int .u8 0, .int .u8 0, .int .u8 0, .int .u8 0, .int .u8 0, .int .u8 0, .int .u8 0, .int .u8 0, .int .u8 0, .int .u8 0] 28)) = X ∧ Hid (Blk X (G) 28 (heldC st he ls le lu lr D)) ∧ Hid (Blk X (G + 1) 28 (heldZ)) ∧ Hid (Below w.heap.size w X) := ⟨_, rfl, Lib.hid (by rw [hVh]; exact (Blk.new' _ _ _ _ hG rfl).alloc _), Lib.hid (Blk.new' _ _ _ _ (by rw [World.size_alloc, hG]) rfl), Lib.hid (by (repeat' (first | (with_reducible exact Below.refl _ _) | (with_reducible assumption) | (with_reducible refine Below.alloc ?_ ?_ _) | (with_reducible refine Below.drew ?_) | (with_reducible refine below_dn ?_) | (with_reducible refine Below.setCell ?_ ?_ _) | (with_reducible exact Nat.le_refl _) | omega | (simp only [World.size_alloc, World.size_setCell, World.size_drew]; omega) | (simp; omega) | (simp; done))))⟩
  try rw [hVh]
  have EVh := Lib.hid hVh
  clear hVh
  go_enter Tryz.func6, Tryz.ntmps6
  go_upto_region 1 with (fail)
  try rw [hG]
  try rw [hw0]
  clear hw0 hG
  obtain ⟨bhc0, bhc1, bhc2⟩ := held_at Kh.out
  go_wp2_with (first | (with_reducible refine Hs.wpList_load_all rfl 28 _ rfl (G) rfl 28 (heldC st he ls le lu lr D) _ (Blk.hs Kh.out) Tryz.underlying28 BGh.out.info ?_))
  refine (C1.out _).mono ?_
  rintro e w1 ⟨rfl, hb⟩
  replace Kh := Lib.hid (Kh.out.below hb Kh.out.lt)
  replace Kr := Lib.hid (Kr.out.below hb Kr.out.lt)
  replace B := Lib.hid (B.out.trans (hb.mono B.out.size))
  clear bhc0 bhc1 bhc2
  clear hb
  obtain ⟨bhc0, bhc1, bhc2⟩ := held_at Kh.out
  go_wp2_with (fail)
  refine (C2.out _).mono ?_
  rintro e wz ⟨rfl, rfl⟩
  have hm := HM.out
  have fzh := fun q => Kh.out.frozen q
  replace Kh := Lib.hid (show Blk (w1.setCell ⟨G, 1, none⟩ (.int .i64 m)) G 28 (heldC st m ls le lu lr D) from by have q := Kh.out.set_ 1 (.int .i64 m); rwa [HS.out] at q)
  replace Kr := Lib.hid (show Blk (w1.setCell ⟨G, 1, none⟩ (.int .i64 m)) (G + 1) _ _ from Kr.out.far (p := ⟨G, 1, none⟩) (by simp) (.int .i64 m))
  replace B := Lib.hid (show Below w.heap.size w (w1.setCell ⟨G, 1, none⟩ (.int .i64 m)) from B.out.setCell (p := ⟨G, 1, none⟩) (show w.heap.size ≤ G by have := HG.out; omega) (.int .i64 m))
  go_upto_region 4 with (fail)
  generalize hw : (w1.setCell ⟨G, 1, none⟩ (.int .i64 m)) = w2 at Kh Kr B ⊢
  clear bhc0 bhc1 bhc2
  clear hw hm fzh BGh
  have BGh := BN
  obtain ⟨bhc0, bhc1, bhc2⟩ := held_at Kh.out
  go_wp2_with (first | (with_reducible refine Hs.wpList_store_blk rfl 28 _ _ rfl (G + 1) 28 _ (heldC st m ls le lu lr D) rfl rfl (Blk.hs Kr.out) BN.out.info (BGr.out.same BN.out) BN.out.one rfl ?_) | (with_reducible refine Hs.wpList_load_all rfl 28 _ rfl (G) rfl 28 (heldC st m ls le lu lr D) _ (Blk.hs Kh.out) Tryz.underlying28 BGh.out.info ?_))
  refine bodyPost_ret (results_row_tmp rfl _ _ (G + 1) 28 (heldC st m ls le lu lr D) (0, 0) _ rfl (Kr.out.row_ _) Tryz.underlying28 rfl BN.out.info) rfl ?_
  have B9 := below_setRow B.out (show w.heap.size ≤ G + 1 by have := HG.out; omega) (heldC st m ls le lu lr D)
  exact ⟨rfl, B9⟩
set_option maxRecDepth 100000 in
set_option maxHeartbeats 4000000 in
theorem rhear_n1 (st he ls le lu lr ep : Int) (D : List Nat) (w : World) (hD : D.length = 16) (h1 : ¬ HeldOk st he lu) :
    Calls Tryz.prog 9 #[.agg (heldC st he ls le lu lr D), .int .i64 ep] w fun e w' => e = .returned (.agg (keptC st he ls le lu lr D 1)) ∧ Below w.heap.size w w' := by
  have C1 := Lib.hid (fun W => rholds_any st he ls le lu lr D W hD)
  rw [decide_eq_false h1] at C1
  have BO := Lib.hid (big_held (st := st) (he := he) (ls := ls) (le := le) (lu := lu) (lr := lr) hD)
  have BB := Lib.hid (fun (W : World) => build_kept st he ls le lu lr 1 hD W)
  have BQ := Lib.hid (big_kept st he ls le lu lr 1 hD)
  clear h1
  have BGh := Lib.hid (show BigR 28 (heldC st he ls le lu lr D) from big_held hD)
  obtain ⟨Vh, hVh⟩ : ∃ C, heldC st he ls le lu lr D = C := ⟨_, rfl⟩
  obtain ⟨G, hG⟩ : ∃ G, w.heap.size = G := ⟨_, rfl⟩
  have HG := Lib.hid hG
  have BGr := Lib.hid (show BigR 42 (keptZ) from big_keptZ)
  obtain ⟨w0, hw0, Kh, Kr, B⟩ : ∃ X, ((w.alloc (.cells Vh 28)).alloc (.cells #[.int .i64 0, .int .i64 0, .int .i64 0, .int .i64 0, .int .i64 0, .int .i64 0, .int .u8 0, .int .u8 0, .int .u8 0, .int .u8 0, .int .u8 0, .int .u8 0, .int .u8 0, .int .u8 0, .int .u8 0, .int .u8 0, .int .u8 0, .int .u8 0, .int .u8 0, .int .u8 0, .int .u8 0, .int .u8 0, .int .i64 0] 42)) = X ∧ Hid (Blk X (G) 28 (heldC st he ls le lu lr D)) ∧ Hid (Blk X (G + 1) 42 (keptZ)) ∧ Hid (Below w.heap.size w X) := ⟨_, rfl, Lib.hid (by rw [hVh]; exact (Blk.new' _ _ _ _ hG rfl).alloc _), Lib.hid (Blk.new' _ _ _ _ (by rw [World.size_alloc, hG]) rfl), Lib.hid (by (repeat' (first | (with_reducible exact Below.refl _ _) | (with_reducible assumption) | (with_reducible refine Below.alloc ?_ ?_ _) | (with_reducible refine Below.drew ?_) | (with_reducible refine below_dn ?_) | (with_reducible refine Below.setCell ?_ ?_ _) | (with_reducible exact Nat.le_refl _) | omega | (simp only [World.size_alloc, World.size_setCell, World.size_drew]; omega) | (simp; omega) | (simp; done))))⟩
  try rw [hVh]
  have EVh := Lib.hid hVh
  clear hVh
  go_enter Tryz.func9, Tryz.ntmps9
  go_upto_region 1 with (fail)
  try rw [hG]
  try rw [hw0]
  clear hw0 hG
  obtain ⟨bhc0, bhc1, bhc2⟩ := held_at Kh.out
  go_wp2_with (first | (with_reducible refine Hs.wpList_load_all rfl 28 _ rfl (G) rfl 28 (heldC st he ls le lu lr D) _ (Blk.hs Kh.out) Tryz.underlying28 BGh.out.info ?_))
  refine (C1.out _).mono ?_
  rintro e w1 ⟨rfl, hb⟩
  replace Kh := Lib.hid (Kh.out.below hb Kh.out.lt)
  replace Kr := Lib.hid (Kr.out.below hb Kr.out.lt)
  replace B := Lib.hid (B.out.trans (hb.mono B.out.size))
  clear bhc0 bhc1 bhc2
  clear hb
  obtain ⟨bhc0, bhc1, bhc2⟩ := held_at Kh.out
  go_wp2_with (first | (with_reducible refine Hs.wpList_load_all rfl 28 _ rfl (G) rfl 28 (heldC st he ls le lu lr D) _ (Blk.hs Kh.out) Tryz.underlying28 BGh.out.info ?_) | (with_reducible refine wpList_build_run rfl 42 _ rfl #[(0, .agg (heldC st he ls le lu lr D)), (1, .int .i64 1)] (by kernel_rfl) _ (BB.out _) ?_) | (with_reducible refine Hs.wpList_store_blk rfl 42 _ _ rfl (G + 1) 42 _ (keptC st he ls le lu lr D 1) rfl rfl (Blk.hs Kr.out) BQ.out.info (big_keptZ.same BQ.out) BQ.out.one rfl ?_))
  have BZ := below_setRow B.out (show w.heap.size ≤ G + 1 by have := HG.out; omega) (keptC st he ls le lu lr D 1)
  refine bodyPost_ret (v := .agg (keptC st he ls le lu lr D 1)) (results_cell_row rfl _ _ _ 42 _ (0, 0) _ rfl (Kr.out.row_ _) Tryz.underlying42 rfl BQ.out.info) rfl ?_
  exact ⟨rfl, BZ⟩
set_option maxRecDepth 100000 in
set_option maxHeartbeats 4000000 in
theorem rhear_n2 (st he ls le lu lr ep : Int) (D : List Nat) (w : World) (hD : D.length = 16) (h1 : HeldOk st he lu) (h2 : ep < 0) :
    Calls Tryz.prog 9 #[.agg (heldC st he ls le lu lr D), .int .i64 ep] w fun e w' => e = .returned (.agg (keptC st he ls le lu lr D 1)) ∧ Below w.heap.size w w' := by
  have C1 := Lib.hid (fun W => rholds_any st he ls le lu lr D W hD)
  rw [decide_eq_true h1] at C1
  have t1 : decide (ep < 0) = true := decide_eq_true h2
  have BO := Lib.hid (big_held (st := st) (he := he) (ls := ls) (le := le) (lu := lu) (lr := lr) hD)
  have BB := Lib.hid (fun (W : World) => build_kept st he ls le lu lr 1 hD W)
  have BQ := Lib.hid (big_kept st he ls le lu lr 1 hD)
  clear h1 h2
  have BGh := Lib.hid (show BigR 28 (heldC st he ls le lu lr D) from big_held hD)
  obtain ⟨Vh, hVh⟩ : ∃ C, heldC st he ls le lu lr D = C := ⟨_, rfl⟩
  obtain ⟨G, hG⟩ : ∃ G, w.heap.size = G := ⟨_, rfl⟩
  have HG := Lib.hid hG
  have BGr := Lib.hid (show BigR 42 (keptZ) from big_keptZ)
  obtain ⟨w0, hw0, Kh, Kr, B⟩ : ∃ X, ((w.alloc (.cells Vh 28)).alloc (.cells #[.int .i64 0, .int .i64 0, .int .i64 0, .int .i64 0, .int .i64 0, .int .i64 0, .int .u8 0, .int .u8 0, .int .u8 0, .int .u8 0, .int .u8 0, .int .u8 0, .int .u8 0, .int .u8 0, .int .u8 0, .int .u8 0, .int .u8 0, .int .u8 0, .int .u8 0, .int .u8 0, .int .u8 0, .int .u8 0, .int .i64 0] 42)) = X ∧ Hid (Blk X (G) 28 (heldC st he ls le lu lr D)) ∧ Hid (Blk X (G + 1) 42 (keptZ)) ∧ Hid (Below w.heap.size w X) := ⟨_, rfl, Lib.hid (by rw [hVh]; exact (Blk.new' _ _ _ _ hG rfl).alloc _), Lib.hid (Blk.new' _ _ _ _ (by rw [World.size_alloc, hG]) rfl), Lib.hid (by (repeat' (first | (with_reducible exact Below.refl _ _) | (with_reducible assumption) | (with_reducible refine Below.alloc ?_ ?_ _) | (with_reducible refine Below.drew ?_) | (with_reducible refine below_dn ?_) | (with_reducible refine Below.setCell ?_ ?_ _) | (with_reducible exact Nat.le_refl _) | omega | (simp only [World.size_alloc, World.size_setCell, World.size_drew]; omega) | (simp; omega) | (simp; done))))⟩
  try rw [hVh]
  have EVh := Lib.hid hVh
  clear hVh
  go_enter Tryz.func9, Tryz.ntmps9
  go_upto_region 1 with (fail)
  try rw [hG]
  try rw [hw0]
  clear hw0 hG
  obtain ⟨bhc0, bhc1, bhc2⟩ := held_at Kh.out
  go_wp2_with (first | (with_reducible refine Hs.wpList_load_all rfl 28 _ rfl (G) rfl 28 (heldC st he ls le lu lr D) _ (Blk.hs Kh.out) Tryz.underlying28 BGh.out.info ?_))
  refine (C1.out _).mono ?_
  rintro e w1 ⟨rfl, hb⟩
  replace Kh := Lib.hid (Kh.out.below hb Kh.out.lt)
  replace Kr := Lib.hid (Kr.out.below hb Kr.out.lt)
  replace B := Lib.hid (B.out.trans (hb.mono B.out.size))
  clear bhc0 bhc1 bhc2
  clear hb
  obtain ⟨bhc0, bhc1, bhc2⟩ := held_at Kh.out
  go_wp2_with (first | (with_reducible refine Hs.wpList_load_all rfl 28 _ rfl (G) rfl 28 (heldC st he ls le lu lr D) _ (Blk.hs Kh.out) Tryz.underlying28 BGh.out.info ?_) | (with_reducible refine wpList_build_run rfl 42 _ rfl #[(0, .agg (heldC st he ls le lu lr D)), (1, .int .i64 1)] (by kernel_rfl) _ (BB.out _) ?_) | (with_reducible refine Hs.wpList_store_blk rfl 42 _ _ rfl (G + 1) 42 _ (keptC st he ls le lu lr D 1) rfl rfl (Blk.hs Kr.out) BQ.out.info (big_keptZ.same BQ.out) BQ.out.one rfl ?_))
  have BZ := below_setRow B.out (show w.heap.size ≤ G + 1 by have := HG.out; omega) (keptC st he ls le lu lr D 1)
  refine bodyPost_ret (v := .agg (keptC st he ls le lu lr D 1)) (results_cell_row rfl _ _ _ 42 _ (0, 0) _ rfl (Kr.out.row_ _) Tryz.underlying42 rfl BQ.out.info) rfl ?_
  exact ⟨rfl, BZ⟩
set_option maxRecDepth 100000 in
set_option maxHeartbeats 4000000 in
theorem rhear_n3 (st he ls le lu lr ep : Int) (D : List Nat) (w : World) (hD : D.length = 16) (h1 : HeldOk st he lu) (h2 : ¬ ep < 0) (h3 : 1099511627776 < ep) :
    Calls Tryz.prog 9 #[.agg (heldC st he ls le lu lr D), .int .i64 ep] w fun e w' => e = .returned (.agg (keptC st he ls le lu lr D 1)) ∧ Below w.heap.size w w' := by
  have C1 := Lib.hid (fun W => rholds_any st he ls le lu lr D W hD)
  rw [decide_eq_true h1] at C1
  have t1 : decide (ep < 0) = false := decide_eq_false h2
  have t2 : decide (1099511627776 < ep) = true := decide_eq_true h3
  have BO := Lib.hid (big_held (st := st) (he := he) (ls := ls) (le := le) (lu := lu) (lr := lr) hD)
  have BB := Lib.hid (fun (W : World) => build_kept st he ls le lu lr 1 hD W)
  have BQ := Lib.hid (big_kept st he ls le lu lr 1 hD)
  clear h1 h2 h3
  have BGh := Lib.hid (show BigR 28 (heldC st he ls le lu lr D) from big_held hD)
  obtain ⟨Vh, hVh⟩ : ∃ C, heldC st he ls le lu lr D = C := ⟨_, rfl⟩
  obtain ⟨G, hG⟩ : ∃ G, w.heap.size = G := ⟨_, rfl⟩
  have HG := Lib.hid hG
  have BGr := Lib.hid (show BigR 42 (keptZ) from big_keptZ)
  obtain ⟨w0, hw0, Kh, Kr, B⟩ : ∃ X, ((w.alloc (.cells Vh 28)).alloc (.cells #[.int .i64 0, .int .i64 0, .int .i64 0, .int .i64 0, .int .i64 0, .int .i64 0, .int .u8 0, .int .u8 0, .int .u8 0, .int .u8 0, .int .u8 0, .int .u8 0, .int .u8 0, .int .u8 0, .int .u8 0, .int .u8 0, .int .u8 0, .int .u8 0, .int .u8 0, .int .u8 0, .int .u8 0, .int .u8 0, .int .i64 0] 42)) = X ∧ Hid (Blk X (G) 28 (heldC st he ls le lu lr D)) ∧ Hid (Blk X (G + 1) 42 (keptZ)) ∧ Hid (Below w.heap.size w X) := ⟨_, rfl, Lib.hid (by rw [hVh]; exact (Blk.new' _ _ _ _ hG rfl).alloc _), Lib.hid (Blk.new' _ _ _ _ (by rw [World.size_alloc, hG]) rfl), Lib.hid (by (repeat' (first | (with_reducible exact Below.refl _ _) | (with_reducible assumption) | (with_reducible refine Below.alloc ?_ ?_ _) | (with_reducible refine Below.drew ?_) | (with_reducible refine below_dn ?_) | (with_reducible refine Below.setCell ?_ ?_ _) | (with_reducible exact Nat.le_refl _) | omega | (simp only [World.size_alloc, World.size_setCell, World.size_drew]; omega) | (simp; omega) | (simp; done))))⟩
  try rw [hVh]
  have EVh := Lib.hid hVh
  clear hVh
  go_enter Tryz.func9, Tryz.ntmps9
  go_upto_region 1 with (fail)
  try rw [hG]
  try rw [hw0]
  clear hw0 hG
  obtain ⟨bhc0, bhc1, bhc2⟩ := held_at Kh.out
  go_wp2_with (first | (with_reducible refine Hs.wpList_load_all rfl 28 _ rfl (G) rfl 28 (heldC st he ls le lu lr D) _ (Blk.hs Kh.out) Tryz.underlying28 BGh.out.info ?_))
  refine (C1.out _).mono ?_
  rintro e w1 ⟨rfl, hb⟩
  replace Kh := Lib.hid (Kh.out.below hb Kh.out.lt)
  replace Kr := Lib.hid (Kr.out.below hb Kr.out.lt)
  replace B := Lib.hid (B.out.trans (hb.mono B.out.size))
  clear bhc0 bhc1 bhc2
  clear hb
  obtain ⟨bhc0, bhc1, bhc2⟩ := held_at Kh.out
  go_wp2_with (first | (with_reducible refine Hs.wpList_load_all rfl 28 _ rfl (G) rfl 28 (heldC st he ls le lu lr D) _ (Blk.hs Kh.out) Tryz.underlying28 BGh.out.info ?_) | (with_reducible refine wpList_build_run rfl 42 _ rfl #[(0, .agg (heldC st he ls le lu lr D)), (1, .int .i64 1)] (by kernel_rfl) _ (BB.out _) ?_) | (with_reducible refine Hs.wpList_store_blk rfl 42 _ _ rfl (G + 1) 42 _ (keptC st he ls le lu lr D 1) rfl rfl (Blk.hs Kr.out) BQ.out.info (big_keptZ.same BQ.out) BQ.out.one rfl ?_))
  have BZ := below_setRow B.out (show w.heap.size ≤ G + 1 by have := HG.out; omega) (keptC st he ls le lu lr D 1)
  refine bodyPost_ret (v := .agg (keptC st he ls le lu lr D 1)) (results_cell_row rfl _ _ _ 42 _ (0, 0) _ rfl (Kr.out.row_ _) Tryz.underlying42 rfl BQ.out.info) rfl ?_
  exact ⟨rfl, BZ⟩
set_option maxRecDepth 100000 in
set_option maxHeartbeats 4000000 in
theorem rhear_ok (st he ls le lu lr ep : Int) (D : List Nat) (w : World) (hD : D.length = 16) (h1 : HeldOk st he lu) (h2 : 0 ≤ ep ∧ ep ≤ 1099511627776) :
    Calls Tryz.prog 9 #[.agg (heldC st he ls le lu lr D), .int .i64 ep] w fun e w' => e = .returned (.agg (keptC st (max he ep) ls le lu lr D 0)) ∧ Below w.heap.size w w' := by
  have C1 := Lib.hid (fun W => rholds_any st he ls le lu lr D W hD)
  rw [decide_eq_true h1] at C1
  have t1 : decide (ep < 0) = false := decide_eq_false (by omega)
  have t2 : decide (1099511627776 < ep) = false := decide_eq_false (by omega)
  have BO := Lib.hid (big_held (st := st) (he := he) (ls := ls) (le := le) (lu := lu) (lr := lr) hD)
  obtain ⟨m, hm⟩ : ∃ m, max he ep = m := ⟨_, rfl⟩
  have BN := Lib.hid (big_held (st := st) (he := m) (ls := ls) (le := le) (lu := lu) (lr := lr) hD)
  have HS := Lib.hid (held_set st he ls le lu lr m D)
  have HM := Lib.hid hm
  rw [hm]
  have BB := Lib.hid (fun (W : World) => build_kept0 st m ls le lu lr hD W)
  have BQ := Lib.hid (big_kept st m ls le lu lr 0 hD)
  clear h1 h2 hm
  have BGh := Lib.hid (show BigR 28 (heldC st he ls le lu lr D) from big_held hD)
  obtain ⟨Vh, hVh⟩ : ∃ C, heldC st he ls le lu lr D = C := ⟨_, rfl⟩
  obtain ⟨G, hG⟩ : ∃ G, w.heap.size = G := ⟨_, rfl⟩
  have HG := Lib.hid hG
  have BGr := Lib.hid (show BigR 42 (keptZ) from big_keptZ)
  obtain ⟨w0, hw0, Kh, Kr, B⟩ : ∃ X, ((w.alloc (.cells Vh 28)).alloc (.cells #[.int .i64 0, .int .i64 0, .int .i64 0, .int .i64 0, .int .i64 0, .int .i64 0, .int .u8 0, .int .u8 0, .int .u8 0, .int .u8 0, .int .u8 0, .int .u8 0, .int .u8 0, .int .u8 0, .int .u8 0, .int .u8 0, .int .u8 0, .int .u8 0, .int .u8 0, .int .u8 0, .int .u8 0, .int .u8 0, .int .i64 0] 42)) = X ∧ Hid (Blk X (G) 28 (heldC st he ls le lu lr D)) ∧ Hid (Blk X (G + 1) 42 (keptZ)) ∧ Hid (Below w.heap.size w X) := ⟨_, rfl, Lib.hid (by rw [hVh]; exact (Blk.new' _ _ _ _ hG rfl).alloc _), Lib.hid (Blk.new' _ _ _ _ (by rw [World.size_alloc, hG]) rfl), Lib.hid (by (repeat' (first | (with_reducible exact Below.refl _ _) | (with_reducible assumption) | (with_reducible refine Below.alloc ?_ ?_ _) | (with_reducible refine Below.drew ?_) | (with_reducible refine below_dn ?_) | (with_reducible refine Below.setCell ?_ ?_ _) | (with_reducible exact Nat.le_refl _) | omega | (simp only [World.size_alloc, World.size_setCell, World.size_drew]; omega) | (simp; omega) | (simp; done))))⟩
  try rw [hVh]
  have EVh := Lib.hid hVh
  clear hVh
  go_enter Tryz.func9, Tryz.ntmps9
  go_upto_region 1 with (fail)
  try rw [hG]
  try rw [hw0]
  clear hw0 hG
  obtain ⟨bhc0, bhc1, bhc2⟩ := held_at Kh.out
  go_wp2_with (first | (with_reducible refine Hs.wpList_load_all rfl 28 _ rfl (G) rfl 28 (heldC st he ls le lu lr D) _ (Blk.hs Kh.out) Tryz.underlying28 BGh.out.info ?_))
  refine (C1.out _).mono ?_
  rintro e w1 ⟨rfl, hb⟩
  replace Kh := Lib.hid (Kh.out.below hb Kh.out.lt)
  replace Kr := Lib.hid (Kr.out.below hb Kr.out.lt)
  replace B := Lib.hid (B.out.trans (hb.mono B.out.size))
  clear bhc0 bhc1 bhc2
  clear hb
  obtain ⟨bhc0, bhc1, bhc2⟩ := held_at Kh.out
  have hm := HM.out
  have fzh := fun q => Kh.out.frozen q
  replace Kh := Lib.hid (show Blk (w1.setCell ⟨G, 1, none⟩ (.int .i64 m)) G 28 (heldC st m ls le lu lr D) from by have q := Kh.out.set_ 1 (.int .i64 m); rwa [HS.out] at q)
  replace Kr := Lib.hid (show Blk (w1.setCell ⟨G, 1, none⟩ (.int .i64 m)) (G + 1) _ _ from Kr.out.far (p := ⟨G, 1, none⟩) (by simp) (.int .i64 m))
  replace B := Lib.hid (show Below w.heap.size w (w1.setCell ⟨G, 1, none⟩ (.int .i64 m)) from B.out.setCell (p := ⟨G, 1, none⟩) (show w.heap.size ≤ G by have := HG.out; omega) (.int .i64 m))
  go_upto_region 4 with (fail)
  generalize hw : (w1.setCell ⟨G, 1, none⟩ (.int .i64 m)) = w2 at Kh Kr B ⊢
  clear bhc0 bhc1 bhc2
  clear hw hm fzh BGh
  have BGh := BN
  obtain ⟨bhc0, bhc1, bhc2⟩ := held_at Kh.out
  go_wp2_with (first | (with_reducible refine Hs.wpList_load_all rfl 28 _ rfl (G) rfl 28 (heldC st m ls le lu lr D) _ (Blk.hs Kh.out) Tryz.underlying28 BGh.out.info ?_) | (with_reducible refine wpList_build_run rfl 42 _ rfl #[(0, .agg (heldC st m ls le lu lr D))] (by kernel_rfl) _ (BB.out _) ?_) | (with_reducible refine Hs.wpList_store_blk rfl 42 _ _ rfl (G + 1) 42 _ (keptC st m ls le lu lr D 0) rfl rfl (Blk.hs Kr.out) BQ.out.info (big_keptZ.same BQ.out) BQ.out.one rfl ?_))
  have BZ := below_setRow B.out (show w.heap.size ≤ G + 1 by have := HG.out; omega) (keptC st m ls le lu lr D 0)
  refine bodyPost_ret (v := .agg (keptC st m ls le lu lr D 0)) (results_cell_row rfl _ _ _ 42 _ (0, 0) _ rfl (Kr.out.row_ _) Tryz.underlying42 rfl BQ.out.info) rfl ?_
  exact ⟨rfl, BZ⟩
set_option maxRecDepth 100000 in
set_option maxHeartbeats 4000000 in
theorem take2_h (a : Option Addr) (c : Nat) (rg : List Rw) (st he ls le lu lr xs ep un sr E : Int) (D V : List Nat) (w : World) (hp : RwA w a rg) (hD : D.length = 16) (hV : V.length = 16) (M : World → Prop) (hM : ∀ X, Below w.heap.size w X → M X) (ck : ∀ X : World, RwA X a rg → M X → Calls Tryz.prog 26 #[.slice a rg.length c, .agg (leaseC xs ep un sr V)] X fun e w' => e = .returned (.int .i64 E) ∧ Below X.heap.size X w') (h1 : ¬ HeldOk st he lu) :
    Calls Tryz.prog 7 #[.slice a rg.length c, .agg (heldC st he ls le lu lr D), .agg (leaseC xs ep un sr V)] w fun e w' => e = .returned (.tuple #[.agg (heldC st he ls le lu lr D), .int .i64 1]) ∧ Below w.heap.size w w' := by
  have C1 := Lib.hid (fun W => held_any st he ls le lu lr D W hD)
  rw [decide_eq_false h1] at C1
  have BO := Lib.hid (big_held (st := st) (he := he) (ls := ls) (le := le) (lu := lu) (lr := lr) hD)
  have HF := Lib.hid (show 2 + (leaseC xs ep un sr V).size ≤ (heldL st he ls le lu lr D).length from by rw [lease_size _ _ _ _ _ hV]; unfold heldL leaseL; simp [hD])
  obtain ⟨N, hN⟩ : ∃ N, rg.length = N := ⟨_, rfl⟩
  skip
  rw [hN]
  clear hN hp hM ck h1
  have BGh := Lib.hid (show BigR 28 (heldC st he ls le lu lr D) from big_held hD)
  obtain ⟨Vh, hVh⟩ : ∃ C, heldC st he ls le lu lr D = C := ⟨_, rfl⟩
  have BGl := Lib.hid (show BigR 26 (leaseC xs ep un sr V) from big_lease hV)
  obtain ⟨Vl, hVl⟩ : ∃ C, leaseC xs ep un sr V = C := ⟨_, rfl⟩
  obtain ⟨G, hG⟩ : ∃ G, w.heap.size = G := ⟨_, rfl⟩
  have HG := Lib.hid hG
  have BGr := Lib.hid (show BigR 28 (heldZ) from big_heldZ)
  obtain ⟨w0, hw0, Kh, Kl, Kr, B⟩ : ∃ X, (((w.alloc (.cells Vh 28)).alloc (.cells Vl 26)).alloc (.cells #[.int .i64 0, .int .i64 0, .int .i64 0, .int .i64 0, .int .i64 0, .int .i64 0, .int .u8 0, .int .u8 0, .int .u8 0, .int .u8 0, .int .u8 0, .int .u8 0, .int .u8 0, .int .u8 0, .int .u8 0, .int .u8 0, .int .u8 0, .int .u8 0, .int .u8 0, .int .u8 0, .int .u8 0, .int .u8 0] 28)) = X ∧ Hid (Blk X (G) 28 (heldC st he ls le lu lr D)) ∧ Hid (Blk X (G + 1) 26 (leaseC xs ep un sr V)) ∧ Hid (Blk X (G + 1 + 1) 28 (heldZ)) ∧ Hid (Below w.heap.size w X) := ⟨_, rfl, Lib.hid (by rw [hVh]; exact ((Blk.new' _ _ _ _ hG rfl).alloc _).alloc _), Lib.hid (by rw [hVl]; exact (Blk.new' _ _ _ _ (by rw [World.size_alloc, hG]) rfl).alloc _), Lib.hid (Blk.new' _ _ _ _ (by rw [World.size_alloc, World.size_alloc, hG]) rfl), Lib.hid (by (repeat' (first | (with_reducible exact Below.refl _ _) | (with_reducible assumption) | (with_reducible refine Below.alloc ?_ ?_ _) | (with_reducible refine Below.drew ?_) | (with_reducible refine below_dn ?_) | (with_reducible refine Below.setCell ?_ ?_ _) | (with_reducible exact Nat.le_refl _) | omega | (simp only [World.size_alloc, World.size_setCell, World.size_drew]; omega) | (simp; omega) | (simp; done))))⟩
  try rw [hVh]
  have EVh := Lib.hid hVh
  clear hVh
  try rw [hVl]
  have EVl := Lib.hid hVl
  clear hVl
  go_enter Tryz.func7, Tryz.ntmps7
  go_upto_region 1 with (fail)
  try rw [hG]
  try rw [hw0]
  clear hw0 hG
  clear hD hV
  obtain ⟨bhc0, bhc1, bhc2⟩ := held_at Kh.out
  obtain ⟨blc0, blc1, blc2, blc3⟩ := lease_cells Kl.out
  go_wp2_with (first | (with_reducible refine Hs.wpList_load_all rfl 28 _ rfl (G) rfl 28 (heldC st he ls le lu lr D) _ (Blk.hs Kh.out) Tryz.underlying28 BGh.out.info ?_))
  refine (C1.out _).mono ?_
  rintro e w1 ⟨rfl, hb⟩
  replace Kh := Lib.hid (Kh.out.below hb Kh.out.lt)
  replace Kl := Lib.hid (Kl.out.below hb Kl.out.lt)
  replace Kr := Lib.hid (Kr.out.below hb Kr.out.lt)
  replace B := Lib.hid (B.out.trans (hb.mono B.out.size))
  clear bhc0 bhc1 bhc2 blc0 blc1 blc2 blc3
  clear hb
  obtain ⟨bhc0, bhc1, bhc2⟩ := held_at Kh.out
  obtain ⟨blc0, blc1, blc2, blc3⟩ := lease_cells Kl.out
  go_wp2_with (first | (with_reducible refine Hs.wpList_store_blk rfl 28 _ _ rfl (G + 1 + 1) 28 _ (heldC st he ls le lu lr D) rfl rfl (Blk.hs Kr.out) BO.out.info (BGr.out.same BO.out) BO.out.one rfl ?_) | (with_reducible refine Hs.wpList_load_all rfl 28 _ rfl (G) rfl 28 (heldC st he ls le lu lr D) _ (Blk.hs Kh.out) Tryz.underlying28 BGh.out.info ?_))
  refine bodyPost_ret (results_row_tmp rfl _ _ (G + 1 + 1) 28 (heldC st he ls le lu lr D) (0, 0) _ rfl (Kr.out.row_ _) Tryz.underlying28 rfl BO.out.info) rfl ?_
  have B9 := below_setRow B.out (show w.heap.size ≤ G + 1 + 1 by have := HG.out; omega) (heldC st he ls le lu lr D)
  exact ⟨by rw [← EVh.out]; rfl, B9⟩
set_option maxRecDepth 100000 in
set_option maxHeartbeats 4000000 in
theorem take2_s (a : Option Addr) (c : Nat) (rg : List Rw) (st he ls le lu lr xs ep un sr E : Int) (D V : List Nat) (w : World) (hp : RwA w a rg) (hD : D.length = 16) (hV : V.length = 16) (M : World → Prop) (hM : ∀ X, Below w.heap.size w X → M X) (ck : ∀ X : World, RwA X a rg → M X → Calls Tryz.prog 26 #[.slice a rg.length c, .agg (leaseC xs ep un sr V)] X fun e w' => e = .returned (.int .i64 E) ∧ Below X.heap.size X w') (h1 : HeldOk st he lu) (h2 : ¬ xs = st) :
    Calls Tryz.prog 7 #[.slice a rg.length c, .agg (heldC st he ls le lu lr D), .agg (leaseC xs ep un sr V)] w fun e w' => e = .returned (.tuple #[.agg (heldC st he ls le lu lr D), .int .i64 1]) ∧ Below w.heap.size w w' := by
  have C1 := Lib.hid (fun W => held_any st he ls le lu lr D W hD)
  rw [decide_eq_true h1] at C1
  have t1 : (xs != st) = true := by simp [h2]
  have BO := Lib.hid (big_held (st := st) (he := he) (ls := ls) (le := le) (lu := lu) (lr := lr) hD)
  have HF := Lib.hid (show 2 + (leaseC xs ep un sr V).size ≤ (heldL st he ls le lu lr D).length from by rw [lease_size _ _ _ _ _ hV]; unfold heldL leaseL; simp [hD])
  obtain ⟨N, hN⟩ : ∃ N, rg.length = N := ⟨_, rfl⟩
  skip
  rw [hN]
  clear hN hp hM ck h1 h2
  have BGh := Lib.hid (show BigR 28 (heldC st he ls le lu lr D) from big_held hD)
  obtain ⟨Vh, hVh⟩ : ∃ C, heldC st he ls le lu lr D = C := ⟨_, rfl⟩
  have BGl := Lib.hid (show BigR 26 (leaseC xs ep un sr V) from big_lease hV)
  obtain ⟨Vl, hVl⟩ : ∃ C, leaseC xs ep un sr V = C := ⟨_, rfl⟩
  obtain ⟨G, hG⟩ : ∃ G, w.heap.size = G := ⟨_, rfl⟩
  have HG := Lib.hid hG
  have BGr := Lib.hid (show BigR 28 (heldZ) from big_heldZ)
  obtain ⟨w0, hw0, Kh, Kl, Kr, B⟩ : ∃ X, (((w.alloc (.cells Vh 28)).alloc (.cells Vl 26)).alloc (.cells #[.int .i64 0, .int .i64 0, .int .i64 0, .int .i64 0, .int .i64 0, .int .i64 0, .int .u8 0, .int .u8 0, .int .u8 0, .int .u8 0, .int .u8 0, .int .u8 0, .int .u8 0, .int .u8 0, .int .u8 0, .int .u8 0, .int .u8 0, .int .u8 0, .int .u8 0, .int .u8 0, .int .u8 0, .int .u8 0] 28)) = X ∧ Hid (Blk X (G) 28 (heldC st he ls le lu lr D)) ∧ Hid (Blk X (G + 1) 26 (leaseC xs ep un sr V)) ∧ Hid (Blk X (G + 1 + 1) 28 (heldZ)) ∧ Hid (Below w.heap.size w X) := ⟨_, rfl, Lib.hid (by rw [hVh]; exact ((Blk.new' _ _ _ _ hG rfl).alloc _).alloc _), Lib.hid (by rw [hVl]; exact (Blk.new' _ _ _ _ (by rw [World.size_alloc, hG]) rfl).alloc _), Lib.hid (Blk.new' _ _ _ _ (by rw [World.size_alloc, World.size_alloc, hG]) rfl), Lib.hid (by (repeat' (first | (with_reducible exact Below.refl _ _) | (with_reducible assumption) | (with_reducible refine Below.alloc ?_ ?_ _) | (with_reducible refine Below.drew ?_) | (with_reducible refine below_dn ?_) | (with_reducible refine Below.setCell ?_ ?_ _) | (with_reducible exact Nat.le_refl _) | omega | (simp only [World.size_alloc, World.size_setCell, World.size_drew]; omega) | (simp; omega) | (simp; done))))⟩
  try rw [hVh]
  have EVh := Lib.hid hVh
  clear hVh
  try rw [hVl]
  have EVl := Lib.hid hVl
  clear hVl
  go_enter Tryz.func7, Tryz.ntmps7
  go_upto_region 1 with (fail)
  try rw [hG]
  try rw [hw0]
  clear hw0 hG
  clear hD hV
  obtain ⟨bhc0, bhc1, bhc2⟩ := held_at Kh.out
  obtain ⟨blc0, blc1, blc2, blc3⟩ := lease_cells Kl.out
  go_wp2_with (first | (with_reducible refine Hs.wpList_load_all rfl 28 _ rfl (G) rfl 28 (heldC st he ls le lu lr D) _ (Blk.hs Kh.out) Tryz.underlying28 BGh.out.info ?_))
  refine (C1.out _).mono ?_
  rintro e w1 ⟨rfl, hb⟩
  replace Kh := Lib.hid (Kh.out.below hb Kh.out.lt)
  replace Kl := Lib.hid (Kl.out.below hb Kl.out.lt)
  replace Kr := Lib.hid (Kr.out.below hb Kr.out.lt)
  replace B := Lib.hid (B.out.trans (hb.mono B.out.size))
  clear bhc0 bhc1 bhc2 blc0 blc1 blc2 blc3
  clear hb
  obtain ⟨bhc0, bhc1, bhc2⟩ := held_at Kh.out
  obtain ⟨blc0, blc1, blc2, blc3⟩ := lease_cells Kl.out
  go_wp2_with (first | (with_reducible refine Hs.wpList_store_blk rfl 28 _ _ rfl (G + 1 + 1) 28 _ (heldC st he ls le lu lr D) rfl rfl (Blk.hs Kr.out) BO.out.info (BGr.out.same BO.out) BO.out.one rfl ?_) | (with_reducible refine Hs.wpList_load_all rfl 28 _ rfl (G) rfl 28 (heldC st he ls le lu lr D) _ (Blk.hs Kh.out) Tryz.underlying28 BGh.out.info ?_))
  refine bodyPost_ret (results_row_tmp rfl _ _ (G + 1 + 1) 28 (heldC st he ls le lu lr D) (0, 0) _ rfl (Kr.out.row_ _) Tryz.underlying28 rfl BO.out.info) rfl ?_
  have B9 := below_setRow B.out (show w.heap.size ≤ G + 1 + 1 by have := HG.out; omega) (heldC st he ls le lu lr D)
  exact ⟨by rw [← EVh.out]; rfl, B9⟩
set_option maxRecDepth 100000 in
set_option maxHeartbeats 4000000 in
theorem take2_e (a : Option Addr) (c : Nat) (rg : List Rw) (st he ls le lu lr xs ep un sr E : Int) (D V : List Nat) (w : World) (hp : RwA w a rg) (hD : D.length = 16) (hV : V.length = 16) (M : World → Prop) (hM : ∀ X, Below w.heap.size w X → M X) (ck : ∀ X : World, RwA X a rg → M X → Calls Tryz.prog 26 #[.slice a rg.length c, .agg (leaseC xs ep un sr V)] X fun e w' => e = .returned (.int .i64 E) ∧ Below X.heap.size X w') (h1 : HeldOk st he lu) (h2 : xs = st) (h3 : ¬ E = 0) :
    Calls Tryz.prog 7 #[.slice a rg.length c, .agg (heldC st he ls le lu lr D), .agg (leaseC xs ep un sr V)] w fun e w' => e = .returned (.tuple #[.agg (heldC st he ls le lu lr D), .int .i64 E]) ∧ Below w.heap.size w w' := by
  have C1 := Lib.hid (fun W => held_any st he ls le lu lr D W hD)
  rw [decide_eq_true h1] at C1
  subst h2
  have t1 : (xs != xs) = false := by simp
  have HP := Lib.hid hp
  have C2 := Lib.hid (fun (X : World) (h : RwA X a rg) (k : M X) => ck X h k)
  have HM2 := Lib.hid hM
  have t2 : (E != 0) = true := by simp [h3]
  have BO := Lib.hid (big_held (st := xs) (he := he) (ls := ls) (le := le) (lu := lu) (lr := lr) hD)
  have HF := Lib.hid (show 2 + (leaseC xs ep un sr V).size ≤ (heldL xs he ls le lu lr D).length from by rw [lease_size _ _ _ _ _ hV]; unfold heldL leaseL; simp [hD])
  obtain ⟨N, hN⟩ : ∃ N, rg.length = N := ⟨_, rfl⟩
  simp only [hN] at C2
  rw [hN]
  clear hN hp hM ck h1 h3
  have BGh := Lib.hid (show BigR 28 (heldC xs he ls le lu lr D) from big_held hD)
  obtain ⟨Vh, hVh⟩ : ∃ C, heldC xs he ls le lu lr D = C := ⟨_, rfl⟩
  have BGl := Lib.hid (show BigR 26 (leaseC xs ep un sr V) from big_lease hV)
  obtain ⟨Vl, hVl⟩ : ∃ C, leaseC xs ep un sr V = C := ⟨_, rfl⟩
  obtain ⟨G, hG⟩ : ∃ G, w.heap.size = G := ⟨_, rfl⟩
  have HG := Lib.hid hG
  have BGr := Lib.hid (show BigR 28 (heldZ) from big_heldZ)
  obtain ⟨w0, hw0, Kh, Kl, Kr, B⟩ : ∃ X, (((w.alloc (.cells Vh 28)).alloc (.cells Vl 26)).alloc (.cells #[.int .i64 0, .int .i64 0, .int .i64 0, .int .i64 0, .int .i64 0, .int .i64 0, .int .u8 0, .int .u8 0, .int .u8 0, .int .u8 0, .int .u8 0, .int .u8 0, .int .u8 0, .int .u8 0, .int .u8 0, .int .u8 0, .int .u8 0, .int .u8 0, .int .u8 0, .int .u8 0, .int .u8 0, .int .u8 0] 28)) = X ∧ Hid (Blk X (G) 28 (heldC xs he ls le lu lr D)) ∧ Hid (Blk X (G + 1) 26 (leaseC xs ep un sr V)) ∧ Hid (Blk X (G + 1 + 1) 28 (heldZ)) ∧ Hid (Below w.heap.size w X) := ⟨_, rfl, Lib.hid (by rw [hVh]; exact ((Blk.new' _ _ _ _ hG rfl).alloc _).alloc _), Lib.hid (by rw [hVl]; exact (Blk.new' _ _ _ _ (by rw [World.size_alloc, hG]) rfl).alloc _), Lib.hid (Blk.new' _ _ _ _ (by rw [World.size_alloc, World.size_alloc, hG]) rfl), Lib.hid (by (repeat' (first | (with_reducible exact Below.refl _ _) | (with_reducible assumption) | (with_reducible refine Below.alloc ?_ ?_ _) | (with_reducible refine Below.drew ?_) | (with_reducible refine below_dn ?_) | (with_reducible refine Below.setCell ?_ ?_ _) | (with_reducible exact Nat.le_refl _) | omega | (simp only [World.size_alloc, World.size_setCell, World.size_drew]; omega) | (simp; omega) | (simp; done))))⟩
  try rw [hVh]
  have EVh := Lib.hid hVh
  clear hVh
  try rw [hVl]
  have EVl := Lib.hid hVl
  clear hVl
  go_enter Tryz.func7, Tryz.ntmps7
  go_upto_region 1 with (fail)
  try rw [hG]
  try rw [hw0]
  clear hw0 hG
  clear hD hV
  obtain ⟨bhc0, bhc1, bhc2⟩ := held_at Kh.out
  obtain ⟨blc0, blc1, blc2, blc3⟩ := lease_cells Kl.out
  go_wp2_with (first | (with_reducible refine Hs.wpList_load_all rfl 28 _ rfl (G) rfl 28 (heldC xs he ls le lu lr D) _ (Blk.hs Kh.out) Tryz.underlying28 BGh.out.info ?_))
  refine (C1.out _).mono ?_
  rintro e w1 ⟨rfl, hb⟩
  replace Kh := Lib.hid (Kh.out.below hb Kh.out.lt)
  replace Kl := Lib.hid (Kl.out.below hb Kl.out.lt)
  replace Kr := Lib.hid (Kr.out.below hb Kr.out.lt)
  replace B := Lib.hid (B.out.trans (hb.mono B.out.size))
  clear bhc0 bhc1 bhc2 blc0 blc1 blc2 blc3
  clear hb
  obtain ⟨bhc0, bhc1, bhc2⟩ := held_at Kh.out
  obtain ⟨blc0, blc1, blc2, blc3⟩ := lease_cells Kl.out
  go_wp2_with (first | (with_reducible refine Hs.wpList_load_all rfl 26 _ rfl (G + 1) rfl 26 (leaseC xs ep un sr V) _ (Blk.hs Kl.out) Tryz.underlying26 BGl.out.info ?_))
  refine (C2.out _ (HP.out.mono B.out) (HM2.out _ B.out)).mono ?_
  rintro e w2 ⟨rfl, hb⟩
  replace Kh := Lib.hid (Kh.out.below hb Kh.out.lt)
  replace Kl := Lib.hid (Kl.out.below hb Kl.out.lt)
  replace Kr := Lib.hid (Kr.out.below hb Kr.out.lt)
  replace B := Lib.hid (B.out.trans (hb.mono B.out.size))
  clear bhc0 bhc1 bhc2 blc0 blc1 blc2 blc3
  clear hb
  obtain ⟨bhc0, bhc1, bhc2⟩ := held_at Kh.out
  obtain ⟨blc0, blc1, blc2, blc3⟩ := lease_cells Kl.out
  go_wp2_with (first | (with_reducible refine Hs.wpList_store_blk rfl 28 _ _ rfl (G + 1 + 1) 28 _ (heldC xs he ls le lu lr D) rfl rfl (Blk.hs Kr.out) BO.out.info (BGr.out.same BO.out) BO.out.one rfl ?_) | (with_reducible refine Hs.wpList_load_all rfl 28 _ rfl (G) rfl 28 (heldC xs he ls le lu lr D) _ (Blk.hs Kh.out) Tryz.underlying28 BGh.out.info ?_))
  refine bodyPost_ret (results_row_tmp rfl _ _ (G + 1 + 1) 28 (heldC xs he ls le lu lr D) (0, 0) _ rfl (Kr.out.row_ _) Tryz.underlying28 rfl BO.out.info) rfl ?_
  have B9 := below_setRow B.out (show w.heap.size ≤ G + 1 + 1 by have := HG.out; omega) (heldC xs he ls le lu lr D)
  exact ⟨by rw [← EVh.out]; rfl, B9⟩
set_option maxRecDepth 100000 in
set_option maxHeartbeats 4000000 in
theorem take2_st (a : Option Addr) (c : Nat) (rg : List Rw) (st he ls le lu lr xs ep un sr E : Int) (D V : List Nat) (w : World) (hp : RwA w a rg) (hD : D.length = 16) (hV : V.length = 16) (M : World → Prop) (hM : ∀ X, Below w.heap.size w X → M X) (ck : ∀ X : World, RwA X a rg → M X → Calls Tryz.prog 26 #[.slice a rg.length c, .agg (leaseC xs ep un sr V)] X fun e w' => e = .returned (.int .i64 E) ∧ Below X.heap.size X w') (h1 : HeldOk st he lu) (h2 : xs = st) (h3 : E = 0) (h4 : he < ep) :
    Calls Tryz.prog 7 #[.slice a rg.length c, .agg (heldC st he ls le lu lr D), .agg (leaseC xs ep un sr V)] w fun e w' => e = .returned (.tuple #[.agg (heldC st he ls le lu lr D), .int .i64 4]) ∧ Below w.heap.size w w' := by
  have C1 := Lib.hid (fun W => held_any st he ls le lu lr D W hD)
  rw [decide_eq_true h1] at C1
  subst h2
  have t1 : (xs != xs) = false := by simp
  have HP := Lib.hid hp
  have C2 := Lib.hid (fun (X : World) (h : RwA X a rg) (k : M X) => ck X h k)
  have HM2 := Lib.hid hM
  subst h3
  have t2 : ((0 : Int) != 0) = false := rfl
  have t3 : decide (he < ep) = true := decide_eq_true h4
  have BO := Lib.hid (big_held (st := xs) (he := he) (ls := ls) (le := le) (lu := lu) (lr := lr) hD)
  have HF := Lib.hid (show 2 + (leaseC xs ep un sr V).size ≤ (heldL xs he ls le lu lr D).length from by rw [lease_size _ _ _ _ _ hV]; unfold heldL leaseL; simp [hD])
  obtain ⟨N, hN⟩ : ∃ N, rg.length = N := ⟨_, rfl⟩
  simp only [hN] at C2
  rw [hN]
  clear hN hp hM ck h1 h4
  have BGh := Lib.hid (show BigR 28 (heldC xs he ls le lu lr D) from big_held hD)
  obtain ⟨Vh, hVh⟩ : ∃ C, heldC xs he ls le lu lr D = C := ⟨_, rfl⟩
  have BGl := Lib.hid (show BigR 26 (leaseC xs ep un sr V) from big_lease hV)
  obtain ⟨Vl, hVl⟩ : ∃ C, leaseC xs ep un sr V = C := ⟨_, rfl⟩
  obtain ⟨G, hG⟩ : ∃ G, w.heap.size = G := ⟨_, rfl⟩
  have HG := Lib.hid hG
  have BGr := Lib.hid (show BigR 28 (heldZ) from big_heldZ)
  obtain ⟨w0, hw0, Kh, Kl, Kr, B⟩ : ∃ X, (((w.alloc (.cells Vh 28)).alloc (.cells Vl 26)).alloc (.cells #[.int .i64 0, .int .i64 0, .int .i64 0, .int .i64 0, .int .i64 0, .int .i64 0, .int .u8 0, .int .u8 0, .int .u8 0, .int .u8 0, .int .u8 0, .int .u8 0, .int .u8 0, .int .u8 0, .int .u8 0, .int .u8 0, .int .u8 0, .int .u8 0, .int .u8 0, .int .u8 0, .int .u8 0, .int .u8 0] 28)) = X ∧ Hid (Blk X (G) 28 (heldC xs he ls le lu lr D)) ∧ Hid (Blk X (G + 1) 26 (leaseC xs ep un sr V)) ∧ Hid (Blk X (G + 1 + 1) 28 (heldZ)) ∧ Hid (Below w.heap.size w X) := ⟨_, rfl, Lib.hid (by rw [hVh]; exact ((Blk.new' _ _ _ _ hG rfl).alloc _).alloc _), Lib.hid (by rw [hVl]; exact (Blk.new' _ _ _ _ (by rw [World.size_alloc, hG]) rfl).alloc _), Lib.hid (Blk.new' _ _ _ _ (by rw [World.size_alloc, World.size_alloc, hG]) rfl), Lib.hid (by (repeat' (first | (with_reducible exact Below.refl _ _) | (with_reducible assumption) | (with_reducible refine Below.alloc ?_ ?_ _) | (with_reducible refine Below.drew ?_) | (with_reducible refine below_dn ?_) | (with_reducible refine Below.setCell ?_ ?_ _) | (with_reducible exact Nat.le_refl _) | omega | (simp only [World.size_alloc, World.size_setCell, World.size_drew]; omega) | (simp; omega) | (simp; done))))⟩
  try rw [hVh]
  have EVh := Lib.hid hVh
  clear hVh
  try rw [hVl]
  have EVl := Lib.hid hVl
  clear hVl
  go_enter Tryz.func7, Tryz.ntmps7
  go_upto_region 1 with (fail)
  try rw [hG]
  try rw [hw0]
  clear hw0 hG
  clear hD hV
  obtain ⟨bhc0, bhc1, bhc2⟩ := held_at Kh.out
  obtain ⟨blc0, blc1, blc2, blc3⟩ := lease_cells Kl.out
  go_wp2_with (first | (with_reducible refine Hs.wpList_load_all rfl 28 _ rfl (G) rfl 28 (heldC xs he ls le lu lr D) _ (Blk.hs Kh.out) Tryz.underlying28 BGh.out.info ?_))
  refine (C1.out _).mono ?_
  rintro e w1 ⟨rfl, hb⟩
  replace Kh := Lib.hid (Kh.out.below hb Kh.out.lt)
  replace Kl := Lib.hid (Kl.out.below hb Kl.out.lt)
  replace Kr := Lib.hid (Kr.out.below hb Kr.out.lt)
  replace B := Lib.hid (B.out.trans (hb.mono B.out.size))
  clear bhc0 bhc1 bhc2 blc0 blc1 blc2 blc3
  clear hb
  obtain ⟨bhc0, bhc1, bhc2⟩ := held_at Kh.out
  obtain ⟨blc0, blc1, blc2, blc3⟩ := lease_cells Kl.out
  go_wp2_with (first | (with_reducible refine Hs.wpList_load_all rfl 26 _ rfl (G + 1) rfl 26 (leaseC xs ep un sr V) _ (Blk.hs Kl.out) Tryz.underlying26 BGl.out.info ?_))
  refine (C2.out _ (HP.out.mono B.out) (HM2.out _ B.out)).mono ?_
  rintro e w2 ⟨rfl, hb⟩
  replace Kh := Lib.hid (Kh.out.below hb Kh.out.lt)
  replace Kl := Lib.hid (Kl.out.below hb Kl.out.lt)
  replace Kr := Lib.hid (Kr.out.below hb Kr.out.lt)
  replace B := Lib.hid (B.out.trans (hb.mono B.out.size))
  clear bhc0 bhc1 bhc2 blc0 blc1 blc2 blc3
  clear hb
  obtain ⟨bhc0, bhc1, bhc2⟩ := held_at Kh.out
  obtain ⟨blc0, blc1, blc2, blc3⟩ := lease_cells Kl.out
  go_wp2_with (first | (with_reducible refine Hs.wpList_store_blk rfl 28 _ _ rfl (G + 1 + 1) 28 _ (heldC xs he ls le lu lr D) rfl rfl (Blk.hs Kr.out) BO.out.info (BGr.out.same BO.out) BO.out.one rfl ?_) | (with_reducible refine Hs.wpList_load_all rfl 28 _ rfl (G) rfl 28 (heldC xs he ls le lu lr D) _ (Blk.hs Kh.out) Tryz.underlying28 BGh.out.info ?_))
  refine bodyPost_ret (results_row_tmp rfl _ _ (G + 1 + 1) 28 (heldC xs he ls le lu lr D) (0, 0) _ rfl (Kr.out.row_ _) Tryz.underlying28 rfl BO.out.info) rfl ?_
  have B9 := below_setRow B.out (show w.heap.size ≤ G + 1 + 1 by have := HG.out; omega) (heldC xs he ls le lu lr D)
  exact ⟨by rw [← EVh.out]; rfl, B9⟩
set_option maxRecDepth 100000 in
set_option maxHeartbeats 4000000 in
theorem take2_keep (a : Option Addr) (c : Nat) (rg : List Rw) (st he ls le lu lr xs ep un sr E : Int) (D V : List Nat) (w : World) (hp : RwA w a rg) (hD : D.length = 16) (hV : V.length = 16) (M : World → Prop) (hM : ∀ X, Below w.heap.size w X → M X) (ck : ∀ X : World, RwA X a rg → M X → Calls Tryz.prog 26 #[.slice a rg.length c, .agg (leaseC xs ep un sr V)] X fun e w' => e = .returned (.int .i64 E) ∧ Below X.heap.size X w') (h1 : HeldOk st he lu) (h2 : xs = st) (h3 : E = 0) (h4 : ¬ he < ep) (h5 : ¬ lu < un) :
    Calls Tryz.prog 7 #[.slice a rg.length c, .agg (heldC st he ls le lu lr D), .agg (leaseC xs ep un sr V)] w fun e w' => e = .returned (.tuple #[.agg (heldC st he ls le lu lr D), .int .i64 0]) ∧ Below w.heap.size w w' := by
  have C1 := Lib.hid (fun W => held_any st he ls le lu lr D W hD)
  rw [decide_eq_true h1] at C1
  subst h2
  have t1 : (xs != xs) = false := by simp
  have HP := Lib.hid hp
  have C2 := Lib.hid (fun (X : World) (h : RwA X a rg) (k : M X) => ck X h k)
  have HM2 := Lib.hid hM
  subst h3
  have t2 : ((0 : Int) != 0) = false := rfl
  have t3 : decide (he < ep) = false := decide_eq_false h4
  have t4 : decide (lu < un) = false := decide_eq_false h5
  have BO := Lib.hid (big_held (st := xs) (he := he) (ls := ls) (le := le) (lu := lu) (lr := lr) hD)
  have HF := Lib.hid (show 2 + (leaseC xs ep un sr V).size ≤ (heldL xs he ls le lu lr D).length from by rw [lease_size _ _ _ _ _ hV]; unfold heldL leaseL; simp [hD])
  obtain ⟨N, hN⟩ : ∃ N, rg.length = N := ⟨_, rfl⟩
  simp only [hN] at C2
  rw [hN]
  clear hN hp hM ck h1 h4 h5
  have BGh := Lib.hid (show BigR 28 (heldC xs he ls le lu lr D) from big_held hD)
  obtain ⟨Vh, hVh⟩ : ∃ C, heldC xs he ls le lu lr D = C := ⟨_, rfl⟩
  have BGl := Lib.hid (show BigR 26 (leaseC xs ep un sr V) from big_lease hV)
  obtain ⟨Vl, hVl⟩ : ∃ C, leaseC xs ep un sr V = C := ⟨_, rfl⟩
  obtain ⟨G, hG⟩ : ∃ G, w.heap.size = G := ⟨_, rfl⟩
  have HG := Lib.hid hG
  have BGr := Lib.hid (show BigR 28 (heldZ) from big_heldZ)
  obtain ⟨w0, hw0, Kh, Kl, Kr, B⟩ : ∃ X, (((w.alloc (.cells Vh 28)).alloc (.cells Vl 26)).alloc (.cells #[.int .i64 0, .int .i64 0, .int .i64 0, .int .i64 0, .int .i64 0, .int .i64 0, .int .u8 0, .int .u8 0, .int .u8 0, .int .u8 0, .int .u8 0, .int .u8 0, .int .u8 0, .int .u8 0, .int .u8 0, .int .u8 0, .int .u8 0, .int .u8 0, .int .u8 0, .int .u8 0, .int .u8 0, .int .u8 0] 28)) = X ∧ Hid (Blk X (G) 28 (heldC xs he ls le lu lr D)) ∧ Hid (Blk X (G + 1) 26 (leaseC xs ep un sr V)) ∧ Hid (Blk X (G + 1 + 1) 28 (heldZ)) ∧ Hid (Below w.heap.size w X) := ⟨_, rfl, Lib.hid (by rw [hVh]; exact ((Blk.new' _ _ _ _ hG rfl).alloc _).alloc _), Lib.hid (by rw [hVl]; exact (Blk.new' _ _ _ _ (by rw [World.size_alloc, hG]) rfl).alloc _), Lib.hid (Blk.new' _ _ _ _ (by rw [World.size_alloc, World.size_alloc, hG]) rfl), Lib.hid (by (repeat' (first | (with_reducible exact Below.refl _ _) | (with_reducible assumption) | (with_reducible refine Below.alloc ?_ ?_ _) | (with_reducible refine Below.drew ?_) | (with_reducible refine below_dn ?_) | (with_reducible refine Below.setCell ?_ ?_ _) | (with_reducible exact Nat.le_refl _) | omega | (simp only [World.size_alloc, World.size_setCell, World.size_drew]; omega) | (simp; omega) | (simp; done))))⟩
  try rw [hVh]
  have EVh := Lib.hid hVh
  clear hVh
  try rw [hVl]
  have EVl := Lib.hid hVl
  clear hVl
  go_enter Tryz.func7, Tryz.ntmps7
  go_upto_region 1 with (fail)
  try rw [hG]
  try rw [hw0]
  clear hw0 hG
  clear hD hV
  obtain ⟨bhc0, bhc1, bhc2⟩ := held_at Kh.out
  obtain ⟨blc0, blc1, blc2, blc3⟩ := lease_cells Kl.out
  go_wp2_with (first | (with_reducible refine Hs.wpList_load_all rfl 28 _ rfl (G) rfl 28 (heldC xs he ls le lu lr D) _ (Blk.hs Kh.out) Tryz.underlying28 BGh.out.info ?_))
  refine (C1.out _).mono ?_
  rintro e w1 ⟨rfl, hb⟩
  replace Kh := Lib.hid (Kh.out.below hb Kh.out.lt)
  replace Kl := Lib.hid (Kl.out.below hb Kl.out.lt)
  replace Kr := Lib.hid (Kr.out.below hb Kr.out.lt)
  replace B := Lib.hid (B.out.trans (hb.mono B.out.size))
  clear bhc0 bhc1 bhc2 blc0 blc1 blc2 blc3
  clear hb
  obtain ⟨bhc0, bhc1, bhc2⟩ := held_at Kh.out
  obtain ⟨blc0, blc1, blc2, blc3⟩ := lease_cells Kl.out
  go_wp2_with (first | (with_reducible refine Hs.wpList_load_all rfl 26 _ rfl (G + 1) rfl 26 (leaseC xs ep un sr V) _ (Blk.hs Kl.out) Tryz.underlying26 BGl.out.info ?_))
  refine (C2.out _ (HP.out.mono B.out) (HM2.out _ B.out)).mono ?_
  rintro e w2 ⟨rfl, hb⟩
  replace Kh := Lib.hid (Kh.out.below hb Kh.out.lt)
  replace Kl := Lib.hid (Kl.out.below hb Kl.out.lt)
  replace Kr := Lib.hid (Kr.out.below hb Kr.out.lt)
  replace B := Lib.hid (B.out.trans (hb.mono B.out.size))
  clear bhc0 bhc1 bhc2 blc0 blc1 blc2 blc3
  clear hb
  obtain ⟨bhc0, bhc1, bhc2⟩ := held_at Kh.out
  obtain ⟨blc0, blc1, blc2, blc3⟩ := lease_cells Kl.out
  go_wp2_with (first | (with_reducible refine Hs.wpList_store_blk rfl 28 _ _ rfl (G + 1 + 1) 28 _ (heldC xs he ls le lu lr D) rfl rfl (Blk.hs Kr.out) BO.out.info (BGr.out.same BO.out) BO.out.one rfl ?_) | (with_reducible refine Hs.wpList_load_all rfl 28 _ rfl (G) rfl 28 (heldC xs he ls le lu lr D) _ (Blk.hs Kh.out) Tryz.underlying28 BGh.out.info ?_))
  refine bodyPost_ret (results_row_tmp rfl _ _ (G + 1 + 1) 28 (heldC xs he ls le lu lr D) (0, 0) _ rfl (Kr.out.row_ _) Tryz.underlying28 rfl BO.out.info) rfl ?_
  have B9 := below_setRow B.out (show w.heap.size ≤ G + 1 + 1 by have := HG.out; omega) (heldC xs he ls le lu lr D)
  exact ⟨by rw [← EVh.out]; rfl, B9⟩
set_option maxRecDepth 100000 in
set_option maxHeartbeats 4000000 in
theorem take2_new (a : Option Addr) (c : Nat) (rg : List Rw) (st he ls le lu lr xs ep un sr E : Int) (D V : List Nat) (w : World) (hp : RwA w a rg) (hD : D.length = 16) (hV : V.length = 16) (M : World → Prop) (hM : ∀ X, Below w.heap.size w X → M X) (ck : ∀ X : World, RwA X a rg → M X → Calls Tryz.prog 26 #[.slice a rg.length c, .agg (leaseC xs ep un sr V)] X fun e w' => e = .returned (.int .i64 E) ∧ Below X.heap.size X w') (h1 : HeldOk st he lu) (h2 : xs = st) (h3 : E = 0) (h4 : ¬ he < ep) (h5 : lu < un) :
    Calls Tryz.prog 7 #[.slice a rg.length c, .agg (heldC st he ls le lu lr D), .agg (leaseC xs ep un sr V)] w fun e w' => e = .returned (.tuple #[.agg (heldC st he xs ep un sr V), .int .i64 0]) ∧ Below w.heap.size w w' := by
  have C1 := Lib.hid (fun W => held_any st he ls le lu lr D W hD)
  rw [decide_eq_true h1] at C1
  subst h2
  have t1 : (xs != xs) = false := by simp
  have HP := Lib.hid hp
  have C2 := Lib.hid (fun (X : World) (h : RwA X a rg) (k : M X) => ck X h k)
  have HM2 := Lib.hid hM
  subst h3
  have t2 : ((0 : Int) != 0) = false := rfl
  have t3 : decide (he < ep) = false := decide_eq_false h4
  have t4 : decide (lu < un) = true := decide_eq_true h5
  have BO := Lib.hid (big_held (st := xs) (he := he) (ls := ls) (le := le) (lu := lu) (lr := lr) hD)
  have HF := Lib.hid (show 2 + (leaseC xs ep un sr V).size ≤ (heldL xs he ls le lu lr D).length from by rw [lease_size _ _ _ _ _ hV]; unfold heldL leaseL; simp [hD])
  have SPL := Lib.hid (held_splice xs he ls le lu lr xs ep un sr D V hD hV)
  have BN := Lib.hid (big_held (st := xs) (he := he) (ls := xs) (le := ep) (lu := un) (lr := sr) hV)
  obtain ⟨N, hN⟩ : ∃ N, rg.length = N := ⟨_, rfl⟩
  simp only [hN] at C2
  rw [hN]
  clear hN hp hM ck h1 h4 h5
  have BGh := Lib.hid (show BigR 28 (heldC xs he ls le lu lr D) from big_held hD)
  obtain ⟨Vh, hVh⟩ : ∃ C, heldC xs he ls le lu lr D = C := ⟨_, rfl⟩
  have BGl := Lib.hid (show BigR 26 (leaseC xs ep un sr V) from big_lease hV)
  obtain ⟨Vl, hVl⟩ : ∃ C, leaseC xs ep un sr V = C := ⟨_, rfl⟩
  obtain ⟨G, hG⟩ : ∃ G, w.heap.size = G := ⟨_, rfl⟩
  have HG := Lib.hid hG
  have BGr := Lib.hid (show BigR 28 (heldZ) from big_heldZ)
  obtain ⟨w0, hw0, Kh, Kl, Kr, B⟩ : ∃ X, (((w.alloc (.cells Vh 28)).alloc (.cells Vl 26)).alloc (.cells #[.int .i64 0, .int .i64 0, .int .i64 0, .int .i64 0, .int .i64 0, .int .i64 0, .int .u8 0, .int .u8 0, .int .u8 0, .int .u8 0, .int .u8 0, .int .u8 0, .int .u8 0, .int .u8 0, .int .u8 0, .int .u8 0, .int .u8 0, .int .u8 0, .int .u8 0, .int .u8 0, .int .u8 0, .int .u8 0] 28)) = X ∧ Hid (Blk X (G) 28 (heldC xs he ls le lu lr D)) ∧ Hid (Blk X (G + 1) 26 (leaseC xs ep un sr V)) ∧ Hid (Blk X (G + 1 + 1) 28 (heldZ)) ∧ Hid (Below w.heap.size w X) := ⟨_, rfl, Lib.hid (by rw [hVh]; exact ((Blk.new' _ _ _ _ hG rfl).alloc _).alloc _), Lib.hid (by rw [hVl]; exact (Blk.new' _ _ _ _ (by rw [World.size_alloc, hG]) rfl).alloc _), Lib.hid (Blk.new' _ _ _ _ (by rw [World.size_alloc, World.size_alloc, hG]) rfl), Lib.hid (by (repeat' (first | (with_reducible exact Below.refl _ _) | (with_reducible assumption) | (with_reducible refine Below.alloc ?_ ?_ _) | (with_reducible refine Below.drew ?_) | (with_reducible refine below_dn ?_) | (with_reducible refine Below.setCell ?_ ?_ _) | (with_reducible exact Nat.le_refl _) | omega | (simp only [World.size_alloc, World.size_setCell, World.size_drew]; omega) | (simp; omega) | (simp; done))))⟩
  try rw [hVh]
  have EVh := Lib.hid hVh
  clear hVh
  try rw [hVl]
  have EVl := Lib.hid hVl
  clear hVl
  go_enter Tryz.func7, Tryz.ntmps7
  go_upto_region 1 with (fail)
  try rw [hG]
  try rw [hw0]
  clear hw0 hG
  clear hD hV
  obtain ⟨bhc0, bhc1, bhc2⟩ := held_at Kh.out
  obtain ⟨blc0, blc1, blc2, blc3⟩ := lease_cells Kl.out
  go_wp2_with (first | (with_reducible refine Hs.wpList_load_all rfl 28 _ rfl (G) rfl 28 (heldC xs he ls le lu lr D) _ (Blk.hs Kh.out) Tryz.underlying28 BGh.out.info ?_))
  refine (C1.out _).mono ?_
  rintro e w1 ⟨rfl, hb⟩
  replace Kh := Lib.hid (Kh.out.below hb Kh.out.lt)
  replace Kl := Lib.hid (Kl.out.below hb Kl.out.lt)
  replace Kr := Lib.hid (Kr.out.below hb Kr.out.lt)
  replace B := Lib.hid (B.out.trans (hb.mono B.out.size))
  clear bhc0 bhc1 bhc2 blc0 blc1 blc2 blc3
  clear hb
  obtain ⟨bhc0, bhc1, bhc2⟩ := held_at Kh.out
  obtain ⟨blc0, blc1, blc2, blc3⟩ := lease_cells Kl.out
  go_wp2_with (first | (with_reducible refine Hs.wpList_load_all rfl 26 _ rfl (G + 1) rfl 26 (leaseC xs ep un sr V) _ (Blk.hs Kl.out) Tryz.underlying26 BGl.out.info ?_))
  refine (C2.out _ (HP.out.mono B.out) (HM2.out _ B.out)).mono ?_
  rintro e w2 ⟨rfl, hb⟩
  replace Kh := Lib.hid (Kh.out.below hb Kh.out.lt)
  replace Kl := Lib.hid (Kl.out.below hb Kl.out.lt)
  replace Kr := Lib.hid (Kr.out.below hb Kr.out.lt)
  replace B := Lib.hid (B.out.trans (hb.mono B.out.size))
  clear bhc0 bhc1 bhc2 blc0 blc1 blc2 blc3
  clear hb
  obtain ⟨bhc0, bhc1, bhc2⟩ := held_at Kh.out
  obtain ⟨blc0, blc1, blc2, blc3⟩ := lease_cells Kl.out
  have HM := Lib.hid (show Hs.Blk w2 G 28 (heldL xs he ls le lu lr D).toArray from Kh.out)
  go_upto_region 10 with (first | (with_reducible refine Hs.wpList_load_all rfl 26 _ rfl (G + 1) rfl 26 (leaseC xs ep un sr V) _ (Blk.hs Kl.out) Tryz.underlying26 BGl.out.info ?_) | (with_reducible refine wpList_store_mid rfl 26 _ _ rfl G 2 28 (heldL xs he ls le lu lr D) (leaseC xs ep un sr V) rfl rfl HM.out BGl.out.info HF.out BGl.out.one rfl ?_))
  rw [SPL.out]
  replace Kh := Lib.hid (show Blk (w2.setRow G (heldC xs he xs ep un sr V)) G 28 (heldC xs he xs ep un sr V) from Kh.out.row_ _)
  replace Kr := Lib.hid (show Blk (w2.setRow G (heldC xs he xs ep un sr V)) (G + 1 + 1) _ _ from Kr.out.rowfar (by omega) _)
  replace B := Lib.hid (below_setRow B.out (show w.heap.size ≤ G by have := HG.out; omega) (heldC xs he xs ep un sr V))
  generalize hw : (w2.setRow G (heldC xs he xs ep un sr V)) = w3 at Kh Kr B ⊢
  clear bhc0 bhc1 bhc2 blc0 blc1 blc2 blc3
  clear hw Kl BGh HM
  have BGh := BN
  go_wp2_with (first | (with_reducible refine Hs.wpList_store_blk rfl 28 _ _ rfl (G + 1 + 1) 28 _ (heldC xs he xs ep un sr V) rfl rfl (Blk.hs Kr.out) BN.out.info (BGr.out.same BN.out) BN.out.one rfl ?_) | (with_reducible refine Hs.wpList_load_all rfl 28 _ rfl (G) rfl 28 (heldC xs he xs ep un sr V) _ (Blk.hs Kh.out) Tryz.underlying28 BGh.out.info ?_))
  refine bodyPost_ret (results_row_tmp rfl _ _ (G + 1 + 1) 28 (heldC xs he xs ep un sr V) (0, 0) _ rfl (Kr.out.row_ _) Tryz.underlying28 rfl BN.out.info) rfl ?_
  have B9 := below_setRow B.out (show w.heap.size ≤ G + 1 + 1 by have := HG.out; omega) (heldC xs he xs ep un sr V)
  exact ⟨rfl, B9⟩
set_option maxRecDepth 100000 in
set_option maxHeartbeats 4000000 in
theorem rtake2_h (a : Option Addr) (c : Nat) (rg : List Rw) (st he ls le lu lr xs ep un sr E : Int) (D V : List Nat) (w : World) (hp : RwA w a rg) (hD : D.length = 16) (hV : V.length = 16) (M : World → Prop) (hM : ∀ X, Below w.heap.size w X → M X) (ck : ∀ X : World, RwA X a rg → M X → Calls Tryz.prog 30 #[.slice a rg.length c, .agg (leaseC xs ep un sr V)] X fun e w' => e = .returned (.int .i64 E) ∧ Below X.heap.size X w') (h1 : ¬ HeldOk st he lu) :
    Calls Tryz.prog 10 #[.slice a rg.length c, .agg (heldC st he ls le lu lr D), .agg (leaseC xs ep un sr V)] w fun e w' => e = .returned (.agg (keptC st he ls le lu lr D 1)) ∧ Below w.heap.size w w' := by
  have C1 := Lib.hid (fun W => rholds_any st he ls le lu lr D W hD)
  rw [decide_eq_false h1] at C1
  have BO := Lib.hid (big_held (st := st) (he := he) (ls := ls) (le := le) (lu := lu) (lr := lr) hD)
  have HF := Lib.hid (show 2 + (leaseC xs ep un sr V).size ≤ (heldL st he ls le lu lr D).length from by rw [lease_size _ _ _ _ _ hV]; unfold heldL leaseL; simp [hD])
  have BB := Lib.hid (fun (W : World) => build_kept st he ls le lu lr 1 hD W)
  have BQ := Lib.hid (big_kept st he ls le lu lr 1 hD)
  obtain ⟨N, hN⟩ : ∃ N, rg.length = N := ⟨_, rfl⟩
  skip
  rw [hN]
  clear hN hp hM ck h1
  have BGh := Lib.hid (show BigR 28 (heldC st he ls le lu lr D) from big_held hD)
  obtain ⟨Vh, hVh⟩ : ∃ C, heldC st he ls le lu lr D = C := ⟨_, rfl⟩
  have BGl := Lib.hid (show BigR 26 (leaseC xs ep un sr V) from big_lease hV)
  obtain ⟨Vl, hVl⟩ : ∃ C, leaseC xs ep un sr V = C := ⟨_, rfl⟩
  obtain ⟨G, hG⟩ : ∃ G, w.heap.size = G := ⟨_, rfl⟩
  have HG := Lib.hid hG
  have BGr := Lib.hid (show BigR 42 (keptZ) from big_keptZ)
  obtain ⟨w0, hw0, Kh, Kl, Kr, B⟩ : ∃ X, (((w.alloc (.cells Vh 28)).alloc (.cells Vl 26)).alloc (.cells #[.int .i64 0, .int .i64 0, .int .i64 0, .int .i64 0, .int .i64 0, .int .i64 0, .int .u8 0, .int .u8 0, .int .u8 0, .int .u8 0, .int .u8 0, .int .u8 0, .int .u8 0, .int .u8 0, .int .u8 0, .int .u8 0, .int .u8 0, .int .u8 0, .int .u8 0, .int .u8 0, .int .u8 0, .int .u8 0, .int .i64 0] 42)) = X ∧ Hid (Blk X (G) 28 (heldC st he ls le lu lr D)) ∧ Hid (Blk X (G + 1) 26 (leaseC xs ep un sr V)) ∧ Hid (Blk X (G + 1 + 1) 42 (keptZ)) ∧ Hid (Below w.heap.size w X) := ⟨_, rfl, Lib.hid (by rw [hVh]; exact ((Blk.new' _ _ _ _ hG rfl).alloc _).alloc _), Lib.hid (by rw [hVl]; exact (Blk.new' _ _ _ _ (by rw [World.size_alloc, hG]) rfl).alloc _), Lib.hid (Blk.new' _ _ _ _ (by rw [World.size_alloc, World.size_alloc, hG]) rfl), Lib.hid (by (repeat' (first | (with_reducible exact Below.refl _ _) | (with_reducible assumption) | (with_reducible refine Below.alloc ?_ ?_ _) | (with_reducible refine Below.drew ?_) | (with_reducible refine below_dn ?_) | (with_reducible refine Below.setCell ?_ ?_ _) | (with_reducible exact Nat.le_refl _) | omega | (simp only [World.size_alloc, World.size_setCell, World.size_drew]; omega) | (simp; omega) | (simp; done))))⟩
  try rw [hVh]
  have EVh := Lib.hid hVh
  clear hVh
  try rw [hVl]
  have EVl := Lib.hid hVl
  clear hVl
  go_enter Tryz.func10, Tryz.ntmps10
  go_upto_region 1 with (fail)
  try rw [hG]
  try rw [hw0]
  clear hw0 hG
  clear hD hV
  obtain ⟨bhc0, bhc1, bhc2⟩ := held_at Kh.out
  obtain ⟨blc0, blc1, blc2, blc3⟩ := lease_cells Kl.out
  go_wp2_with (first | (with_reducible refine Hs.wpList_load_all rfl 28 _ rfl (G) rfl 28 (heldC st he ls le lu lr D) _ (Blk.hs Kh.out) Tryz.underlying28 BGh.out.info ?_))
  refine (C1.out _).mono ?_
  rintro e w1 ⟨rfl, hb⟩
  replace Kh := Lib.hid (Kh.out.below hb Kh.out.lt)
  replace Kl := Lib.hid (Kl.out.below hb Kl.out.lt)
  replace Kr := Lib.hid (Kr.out.below hb Kr.out.lt)
  replace B := Lib.hid (B.out.trans (hb.mono B.out.size))
  clear bhc0 bhc1 bhc2 blc0 blc1 blc2 blc3
  clear hb
  obtain ⟨bhc0, bhc1, bhc2⟩ := held_at Kh.out
  obtain ⟨blc0, blc1, blc2, blc3⟩ := lease_cells Kl.out
  go_wp2_with (first | (with_reducible refine Hs.wpList_load_all rfl 28 _ rfl (G) rfl 28 (heldC st he ls le lu lr D) _ (Blk.hs Kh.out) Tryz.underlying28 BGh.out.info ?_) | (with_reducible refine wpList_build_run rfl 42 _ rfl #[(0, .agg (heldC st he ls le lu lr D)), (1, .int .i64 1)] (by kernel_rfl) _ (BB.out _) ?_) | (with_reducible refine Hs.wpList_store_blk rfl 42 _ _ rfl (G + 1 + 1) 42 _ (keptC st he ls le lu lr D 1) rfl rfl (Blk.hs Kr.out) BQ.out.info (big_keptZ.same BQ.out) BQ.out.one rfl ?_))
  have BZ := below_setRow B.out (show w.heap.size ≤ G + 1 + 1 by have := HG.out; omega) (keptC st he ls le lu lr D 1)
  refine bodyPost_ret (v := .agg (keptC st he ls le lu lr D 1)) (results_cell_row rfl _ _ _ 42 _ (0, 0) _ rfl (Kr.out.row_ _) Tryz.underlying42 rfl BQ.out.info) rfl ?_
  exact ⟨rfl, BZ⟩
set_option maxRecDepth 100000 in
set_option maxHeartbeats 4000000 in
theorem rtake2_s (a : Option Addr) (c : Nat) (rg : List Rw) (st he ls le lu lr xs ep un sr E : Int) (D V : List Nat) (w : World) (hp : RwA w a rg) (hD : D.length = 16) (hV : V.length = 16) (M : World → Prop) (hM : ∀ X, Below w.heap.size w X → M X) (ck : ∀ X : World, RwA X a rg → M X → Calls Tryz.prog 30 #[.slice a rg.length c, .agg (leaseC xs ep un sr V)] X fun e w' => e = .returned (.int .i64 E) ∧ Below X.heap.size X w') (h1 : HeldOk st he lu) (h2 : ¬ xs = st) :
    Calls Tryz.prog 10 #[.slice a rg.length c, .agg (heldC st he ls le lu lr D), .agg (leaseC xs ep un sr V)] w fun e w' => e = .returned (.agg (keptC st he ls le lu lr D 1)) ∧ Below w.heap.size w w' := by
  have C1 := Lib.hid (fun W => rholds_any st he ls le lu lr D W hD)
  rw [decide_eq_true h1] at C1
  have t1 : (xs != st) = true := by simp [h2]
  have BO := Lib.hid (big_held (st := st) (he := he) (ls := ls) (le := le) (lu := lu) (lr := lr) hD)
  have HF := Lib.hid (show 2 + (leaseC xs ep un sr V).size ≤ (heldL st he ls le lu lr D).length from by rw [lease_size _ _ _ _ _ hV]; unfold heldL leaseL; simp [hD])
  have BB := Lib.hid (fun (W : World) => build_kept st he ls le lu lr 1 hD W)
  have BQ := Lib.hid (big_kept st he ls le lu lr 1 hD)
  obtain ⟨N, hN⟩ : ∃ N, rg.length = N := ⟨_, rfl⟩
  skip
  rw [hN]
  clear hN hp hM ck h1 h2
  have BGh := Lib.hid (show BigR 28 (heldC st he ls le lu lr D) from big_held hD)
  obtain ⟨Vh, hVh⟩ : ∃ C, heldC st he ls le lu lr D = C := ⟨_, rfl⟩
  have BGl := Lib.hid (show BigR 26 (leaseC xs ep un sr V) from big_lease hV)
  obtain ⟨Vl, hVl⟩ : ∃ C, leaseC xs ep un sr V = C := ⟨_, rfl⟩
  obtain ⟨G, hG⟩ : ∃ G, w.heap.size = G := ⟨_, rfl⟩
  have HG := Lib.hid hG
  have BGr := Lib.hid (show BigR 42 (keptZ) from big_keptZ)
  obtain ⟨w0, hw0, Kh, Kl, Kr, B⟩ : ∃ X, (((w.alloc (.cells Vh 28)).alloc (.cells Vl 26)).alloc (.cells #[.int .i64 0, .int .i64 0, .int .i64 0, .int .i64 0, .int .i64 0, .int .i64 0, .int .u8 0, .int .u8 0, .int .u8 0, .int .u8 0, .int .u8 0, .int .u8 0, .int .u8 0, .int .u8 0, .int .u8 0, .int .u8 0, .int .u8 0, .int .u8 0, .int .u8 0, .int .u8 0, .int .u8 0, .int .u8 0, .int .i64 0] 42)) = X ∧ Hid (Blk X (G) 28 (heldC st he ls le lu lr D)) ∧ Hid (Blk X (G + 1) 26 (leaseC xs ep un sr V)) ∧ Hid (Blk X (G + 1 + 1) 42 (keptZ)) ∧ Hid (Below w.heap.size w X) := ⟨_, rfl, Lib.hid (by rw [hVh]; exact ((Blk.new' _ _ _ _ hG rfl).alloc _).alloc _), Lib.hid (by rw [hVl]; exact (Blk.new' _ _ _ _ (by rw [World.size_alloc, hG]) rfl).alloc _), Lib.hid (Blk.new' _ _ _ _ (by rw [World.size_alloc, World.size_alloc, hG]) rfl), Lib.hid (by (repeat' (first | (with_reducible exact Below.refl _ _) | (with_reducible assumption) | (with_reducible refine Below.alloc ?_ ?_ _) | (with_reducible refine Below.drew ?_) | (with_reducible refine below_dn ?_) | (with_reducible refine Below.setCell ?_ ?_ _) | (with_reducible exact Nat.le_refl _) | omega | (simp only [World.size_alloc, World.size_setCell, World.size_drew]; omega) | (simp; omega) | (simp; done))))⟩
  try rw [hVh]
  have EVh := Lib.hid hVh
  clear hVh
  try rw [hVl]
  have EVl := Lib.hid hVl
  clear hVl
  go_enter Tryz.func10, Tryz.ntmps10
  go_upto_region 1 with (fail)
  try rw [hG]
  try rw [hw0]
  clear hw0 hG
  clear hD hV
  obtain ⟨bhc0, bhc1, bhc2⟩ := held_at Kh.out
  obtain ⟨blc0, blc1, blc2, blc3⟩ := lease_cells Kl.out
  go_wp2_with (first | (with_reducible refine Hs.wpList_load_all rfl 28 _ rfl (G) rfl 28 (heldC st he ls le lu lr D) _ (Blk.hs Kh.out) Tryz.underlying28 BGh.out.info ?_))
  refine (C1.out _).mono ?_
  rintro e w1 ⟨rfl, hb⟩
  replace Kh := Lib.hid (Kh.out.below hb Kh.out.lt)
  replace Kl := Lib.hid (Kl.out.below hb Kl.out.lt)
  replace Kr := Lib.hid (Kr.out.below hb Kr.out.lt)
  replace B := Lib.hid (B.out.trans (hb.mono B.out.size))
  clear bhc0 bhc1 bhc2 blc0 blc1 blc2 blc3
  clear hb
  obtain ⟨bhc0, bhc1, bhc2⟩ := held_at Kh.out
  obtain ⟨blc0, blc1, blc2, blc3⟩ := lease_cells Kl.out
  go_wp2_with (first | (with_reducible refine Hs.wpList_load_all rfl 28 _ rfl (G) rfl 28 (heldC st he ls le lu lr D) _ (Blk.hs Kh.out) Tryz.underlying28 BGh.out.info ?_) | (with_reducible refine wpList_build_run rfl 42 _ rfl #[(0, .agg (heldC st he ls le lu lr D)), (1, .int .i64 1)] (by kernel_rfl) _ (BB.out _) ?_) | (with_reducible refine Hs.wpList_store_blk rfl 42 _ _ rfl (G + 1 + 1) 42 _ (keptC st he ls le lu lr D 1) rfl rfl (Blk.hs Kr.out) BQ.out.info (big_keptZ.same BQ.out) BQ.out.one rfl ?_))
  have BZ := below_setRow B.out (show w.heap.size ≤ G + 1 + 1 by have := HG.out; omega) (keptC st he ls le lu lr D 1)
  refine bodyPost_ret (v := .agg (keptC st he ls le lu lr D 1)) (results_cell_row rfl _ _ _ 42 _ (0, 0) _ rfl (Kr.out.row_ _) Tryz.underlying42 rfl BQ.out.info) rfl ?_
  exact ⟨rfl, BZ⟩
set_option maxRecDepth 100000 in
set_option maxHeartbeats 4000000 in
theorem rtake2_e (a : Option Addr) (c : Nat) (rg : List Rw) (st he ls le lu lr xs ep un sr E : Int) (D V : List Nat) (w : World) (hp : RwA w a rg) (hD : D.length = 16) (hV : V.length = 16) (M : World → Prop) (hM : ∀ X, Below w.heap.size w X → M X) (ck : ∀ X : World, RwA X a rg → M X → Calls Tryz.prog 30 #[.slice a rg.length c, .agg (leaseC xs ep un sr V)] X fun e w' => e = .returned (.int .i64 E) ∧ Below X.heap.size X w') (h1 : HeldOk st he lu) (h2 : xs = st) (h3 : ¬ E = 0) :
    Calls Tryz.prog 10 #[.slice a rg.length c, .agg (heldC st he ls le lu lr D), .agg (leaseC xs ep un sr V)] w fun e w' => e = .returned (.agg (keptC st he ls le lu lr D E)) ∧ Below w.heap.size w w' := by
  have C1 := Lib.hid (fun W => rholds_any st he ls le lu lr D W hD)
  rw [decide_eq_true h1] at C1
  subst h2
  have t1 : (xs != xs) = false := by simp
  have HP := Lib.hid hp
  have C2 := Lib.hid (fun (X : World) (h : RwA X a rg) (k : M X) => ck X h k)
  have HM2 := Lib.hid hM
  have t2 : (E != 0) = true := by simp [h3]
  have BO := Lib.hid (big_held (st := xs) (he := he) (ls := ls) (le := le) (lu := lu) (lr := lr) hD)
  have HF := Lib.hid (show 2 + (leaseC xs ep un sr V).size ≤ (heldL xs he ls le lu lr D).length from by rw [lease_size _ _ _ _ _ hV]; unfold heldL leaseL; simp [hD])
  have BB := Lib.hid (fun (W : World) => build_kept xs he ls le lu lr E hD W)
  have BQ := Lib.hid (big_kept xs he ls le lu lr E hD)
  obtain ⟨N, hN⟩ : ∃ N, rg.length = N := ⟨_, rfl⟩
  simp only [hN] at C2
  rw [hN]
  clear hN hp hM ck h1 h3
  have BGh := Lib.hid (show BigR 28 (heldC xs he ls le lu lr D) from big_held hD)
  obtain ⟨Vh, hVh⟩ : ∃ C, heldC xs he ls le lu lr D = C := ⟨_, rfl⟩
  have BGl := Lib.hid (show BigR 26 (leaseC xs ep un sr V) from big_lease hV)
  obtain ⟨Vl, hVl⟩ : ∃ C, leaseC xs ep un sr V = C := ⟨_, rfl⟩
  obtain ⟨G, hG⟩ : ∃ G, w.heap.size = G := ⟨_, rfl⟩
  have HG := Lib.hid hG
  have BGr := Lib.hid (show BigR 42 (keptZ) from big_keptZ)
  obtain ⟨w0, hw0, Kh, Kl, Kr, B⟩ : ∃ X, (((w.alloc (.cells Vh 28)).alloc (.cells Vl 26)).alloc (.cells #[.int .i64 0, .int .i64 0, .int .i64 0, .int .i64 0, .int .i64 0, .int .i64 0, .int .u8 0, .int .u8 0, .int .u8 0, .int .u8 0, .int .u8 0, .int .u8 0, .int .u8 0, .int .u8 0, .int .u8 0, .int .u8 0, .int .u8 0, .int .u8 0, .int .u8 0, .int .u8 0, .int .u8 0, .int .u8 0, .int .i64 0] 42)) = X ∧ Hid (Blk X (G) 28 (heldC xs he ls le lu lr D)) ∧ Hid (Blk X (G + 1) 26 (leaseC xs ep un sr V)) ∧ Hid (Blk X (G + 1 + 1) 42 (keptZ)) ∧ Hid (Below w.heap.size w X) := ⟨_, rfl, Lib.hid (by rw [hVh]; exact ((Blk.new' _ _ _ _ hG rfl).alloc _).alloc _), Lib.hid (by rw [hVl]; exact (Blk.new' _ _ _ _ (by rw [World.size_alloc, hG]) rfl).alloc _), Lib.hid (Blk.new' _ _ _ _ (by rw [World.size_alloc, World.size_alloc, hG]) rfl), Lib.hid (by (repeat' (first | (with_reducible exact Below.refl _ _) | (with_reducible assumption) | (with_reducible refine Below.alloc ?_ ?_ _) | (with_reducible refine Below.drew ?_) | (with_reducible refine below_dn ?_) | (with_reducible refine Below.setCell ?_ ?_ _) | (with_reducible exact Nat.le_refl _) | omega | (simp only [World.size_alloc, World.size_setCell, World.size_drew]; omega) | (simp; omega) | (simp; done))))⟩
  try rw [hVh]
  have EVh := Lib.hid hVh
  clear hVh
  try rw [hVl]
  have EVl := Lib.hid hVl
  clear hVl
  go_enter Tryz.func10, Tryz.ntmps10
  go_upto_region 1 with (fail)
  try rw [hG]
  try rw [hw0]
  clear hw0 hG
  clear hD hV
  obtain ⟨bhc0, bhc1, bhc2⟩ := held_at Kh.out
  obtain ⟨blc0, blc1, blc2, blc3⟩ := lease_cells Kl.out
  go_wp2_with (first | (with_reducible refine Hs.wpList_load_all rfl 28 _ rfl (G) rfl 28 (heldC xs he ls le lu lr D) _ (Blk.hs Kh.out) Tryz.underlying28 BGh.out.info ?_))
  refine (C1.out _).mono ?_
  rintro e w1 ⟨rfl, hb⟩
  replace Kh := Lib.hid (Kh.out.below hb Kh.out.lt)
  replace Kl := Lib.hid (Kl.out.below hb Kl.out.lt)
  replace Kr := Lib.hid (Kr.out.below hb Kr.out.lt)
  replace B := Lib.hid (B.out.trans (hb.mono B.out.size))
  clear bhc0 bhc1 bhc2 blc0 blc1 blc2 blc3
  clear hb
  obtain ⟨bhc0, bhc1, bhc2⟩ := held_at Kh.out
  obtain ⟨blc0, blc1, blc2, blc3⟩ := lease_cells Kl.out
  go_wp2_with (first | (with_reducible refine Hs.wpList_load_all rfl 26 _ rfl (G + 1) rfl 26 (leaseC xs ep un sr V) _ (Blk.hs Kl.out) Tryz.underlying26 BGl.out.info ?_))
  refine (C2.out _ (HP.out.mono B.out) (HM2.out _ B.out)).mono ?_
  rintro e w2 ⟨rfl, hb⟩
  replace Kh := Lib.hid (Kh.out.below hb Kh.out.lt)
  replace Kl := Lib.hid (Kl.out.below hb Kl.out.lt)
  replace Kr := Lib.hid (Kr.out.below hb Kr.out.lt)
  replace B := Lib.hid (B.out.trans (hb.mono B.out.size))
  clear bhc0 bhc1 bhc2 blc0 blc1 blc2 blc3
  clear hb
  obtain ⟨bhc0, bhc1, bhc2⟩ := held_at Kh.out
  obtain ⟨blc0, blc1, blc2, blc3⟩ := lease_cells Kl.out
  go_wp2_with (first | (with_reducible refine Hs.wpList_load_all rfl 28 _ rfl (G) rfl 28 (heldC xs he ls le lu lr D) _ (Blk.hs Kh.out) Tryz.underlying28 BGh.out.info ?_) | (with_reducible refine wpList_build_run rfl 42 _ rfl #[(0, .agg (heldC xs he ls le lu lr D)), (1, .int .i64 E)] (by kernel_rfl) _ (BB.out _) ?_) | (with_reducible refine Hs.wpList_store_blk rfl 42 _ _ rfl (G + 1 + 1) 42 _ (keptC xs he ls le lu lr D E) rfl rfl (Blk.hs Kr.out) BQ.out.info (big_keptZ.same BQ.out) BQ.out.one rfl ?_))
  have BZ := below_setRow B.out (show w.heap.size ≤ G + 1 + 1 by have := HG.out; omega) (keptC xs he ls le lu lr D E)
  refine bodyPost_ret (v := .agg (keptC xs he ls le lu lr D E)) (results_cell_row rfl _ _ _ 42 _ (0, 0) _ rfl (Kr.out.row_ _) Tryz.underlying42 rfl BQ.out.info) rfl ?_
  exact ⟨rfl, BZ⟩
set_option maxRecDepth 100000 in
set_option maxHeartbeats 4000000 in
theorem rtake2_st (a : Option Addr) (c : Nat) (rg : List Rw) (st he ls le lu lr xs ep un sr E : Int) (D V : List Nat) (w : World) (hp : RwA w a rg) (hD : D.length = 16) (hV : V.length = 16) (M : World → Prop) (hM : ∀ X, Below w.heap.size w X → M X) (ck : ∀ X : World, RwA X a rg → M X → Calls Tryz.prog 30 #[.slice a rg.length c, .agg (leaseC xs ep un sr V)] X fun e w' => e = .returned (.int .i64 E) ∧ Below X.heap.size X w') (h1 : HeldOk st he lu) (h2 : xs = st) (h3 : E = 0) (h4 : he < ep) :
    Calls Tryz.prog 10 #[.slice a rg.length c, .agg (heldC st he ls le lu lr D), .agg (leaseC xs ep un sr V)] w fun e w' => e = .returned (.agg (keptC st he ls le lu lr D 4)) ∧ Below w.heap.size w w' := by
  have C1 := Lib.hid (fun W => rholds_any st he ls le lu lr D W hD)
  rw [decide_eq_true h1] at C1
  subst h2
  have t1 : (xs != xs) = false := by simp
  have HP := Lib.hid hp
  have C2 := Lib.hid (fun (X : World) (h : RwA X a rg) (k : M X) => ck X h k)
  have HM2 := Lib.hid hM
  subst h3
  have t2 : ((0 : Int) != 0) = false := rfl
  have t3 : decide (he < ep) = true := decide_eq_true h4
  have BO := Lib.hid (big_held (st := xs) (he := he) (ls := ls) (le := le) (lu := lu) (lr := lr) hD)
  have HF := Lib.hid (show 2 + (leaseC xs ep un sr V).size ≤ (heldL xs he ls le lu lr D).length from by rw [lease_size _ _ _ _ _ hV]; unfold heldL leaseL; simp [hD])
  have BB := Lib.hid (fun (W : World) => build_kept xs he ls le lu lr 4 hD W)
  have BQ := Lib.hid (big_kept xs he ls le lu lr 4 hD)
  obtain ⟨N, hN⟩ : ∃ N, rg.length = N := ⟨_, rfl⟩
  simp only [hN] at C2
  rw [hN]
  clear hN hp hM ck h1 h4
  have BGh := Lib.hid (show BigR 28 (heldC xs he ls le lu lr D) from big_held hD)
  obtain ⟨Vh, hVh⟩ : ∃ C, heldC xs he ls le lu lr D = C := ⟨_, rfl⟩
  have BGl := Lib.hid (show BigR 26 (leaseC xs ep un sr V) from big_lease hV)
  obtain ⟨Vl, hVl⟩ : ∃ C, leaseC xs ep un sr V = C := ⟨_, rfl⟩
  obtain ⟨G, hG⟩ : ∃ G, w.heap.size = G := ⟨_, rfl⟩
  have HG := Lib.hid hG
  have BGr := Lib.hid (show BigR 42 (keptZ) from big_keptZ)
  obtain ⟨w0, hw0, Kh, Kl, Kr, B⟩ : ∃ X, (((w.alloc (.cells Vh 28)).alloc (.cells Vl 26)).alloc (.cells #[.int .i64 0, .int .i64 0, .int .i64 0, .int .i64 0, .int .i64 0, .int .i64 0, .int .u8 0, .int .u8 0, .int .u8 0, .int .u8 0, .int .u8 0, .int .u8 0, .int .u8 0, .int .u8 0, .int .u8 0, .int .u8 0, .int .u8 0, .int .u8 0, .int .u8 0, .int .u8 0, .int .u8 0, .int .u8 0, .int .i64 0] 42)) = X ∧ Hid (Blk X (G) 28 (heldC xs he ls le lu lr D)) ∧ Hid (Blk X (G + 1) 26 (leaseC xs ep un sr V)) ∧ Hid (Blk X (G + 1 + 1) 42 (keptZ)) ∧ Hid (Below w.heap.size w X) := ⟨_, rfl, Lib.hid (by rw [hVh]; exact ((Blk.new' _ _ _ _ hG rfl).alloc _).alloc _), Lib.hid (by rw [hVl]; exact (Blk.new' _ _ _ _ (by rw [World.size_alloc, hG]) rfl).alloc _), Lib.hid (Blk.new' _ _ _ _ (by rw [World.size_alloc, World.size_alloc, hG]) rfl), Lib.hid (by (repeat' (first | (with_reducible exact Below.refl _ _) | (with_reducible assumption) | (with_reducible refine Below.alloc ?_ ?_ _) | (with_reducible refine Below.drew ?_) | (with_reducible refine below_dn ?_) | (with_reducible refine Below.setCell ?_ ?_ _) | (with_reducible exact Nat.le_refl _) | omega | (simp only [World.size_alloc, World.size_setCell, World.size_drew]; omega) | (simp; omega) | (simp; done))))⟩
  try rw [hVh]
  have EVh := Lib.hid hVh
  clear hVh
  try rw [hVl]
  have EVl := Lib.hid hVl
  clear hVl
  go_enter Tryz.func10, Tryz.ntmps10
  go_upto_region 1 with (fail)
  try rw [hG]
  try rw [hw0]
  clear hw0 hG
  clear hD hV
  obtain ⟨bhc0, bhc1, bhc2⟩ := held_at Kh.out
  obtain ⟨blc0, blc1, blc2, blc3⟩ := lease_cells Kl.out
  go_wp2_with (first | (with_reducible refine Hs.wpList_load_all rfl 28 _ rfl (G) rfl 28 (heldC xs he ls le lu lr D) _ (Blk.hs Kh.out) Tryz.underlying28 BGh.out.info ?_))
  refine (C1.out _).mono ?_
  rintro e w1 ⟨rfl, hb⟩
  replace Kh := Lib.hid (Kh.out.below hb Kh.out.lt)
  replace Kl := Lib.hid (Kl.out.below hb Kl.out.lt)
  replace Kr := Lib.hid (Kr.out.below hb Kr.out.lt)
  replace B := Lib.hid (B.out.trans (hb.mono B.out.size))
  clear bhc0 bhc1 bhc2 blc0 blc1 blc2 blc3
  clear hb
  obtain ⟨bhc0, bhc1, bhc2⟩ := held_at Kh.out
  obtain ⟨blc0, blc1, blc2, blc3⟩ := lease_cells Kl.out
  go_wp2_with (first | (with_reducible refine Hs.wpList_load_all rfl 26 _ rfl (G + 1) rfl 26 (leaseC xs ep un sr V) _ (Blk.hs Kl.out) Tryz.underlying26 BGl.out.info ?_))
  refine (C2.out _ (HP.out.mono B.out) (HM2.out _ B.out)).mono ?_
  rintro e w2 ⟨rfl, hb⟩
  replace Kh := Lib.hid (Kh.out.below hb Kh.out.lt)
  replace Kl := Lib.hid (Kl.out.below hb Kl.out.lt)
  replace Kr := Lib.hid (Kr.out.below hb Kr.out.lt)
  replace B := Lib.hid (B.out.trans (hb.mono B.out.size))
  clear bhc0 bhc1 bhc2 blc0 blc1 blc2 blc3
  clear hb
  obtain ⟨bhc0, bhc1, bhc2⟩ := held_at Kh.out
  obtain ⟨blc0, blc1, blc2, blc3⟩ := lease_cells Kl.out
  go_wp2_with (first | (with_reducible refine Hs.wpList_load_all rfl 28 _ rfl (G) rfl 28 (heldC xs he ls le lu lr D) _ (Blk.hs Kh.out) Tryz.underlying28 BGh.out.info ?_) | (with_reducible refine wpList_build_run rfl 42 _ rfl #[(0, .agg (heldC xs he ls le lu lr D)), (1, .int .i64 4)] (by kernel_rfl) _ (BB.out _) ?_) | (with_reducible refine Hs.wpList_store_blk rfl 42 _ _ rfl (G + 1 + 1) 42 _ (keptC xs he ls le lu lr D 4) rfl rfl (Blk.hs Kr.out) BQ.out.info (big_keptZ.same BQ.out) BQ.out.one rfl ?_))
  have BZ := below_setRow B.out (show w.heap.size ≤ G + 1 + 1 by have := HG.out; omega) (keptC xs he ls le lu lr D 4)
  refine bodyPost_ret (v := .agg (keptC xs he ls le lu lr D 4)) (results_cell_row rfl _ _ _ 42 _ (0, 0) _ rfl (Kr.out.row_ _) Tryz.underlying42 rfl BQ.out.info) rfl ?_
  exact ⟨rfl, BZ⟩
set_option maxRecDepth 100000 in
set_option maxHeartbeats 4000000 in
theorem rtake2_keep (a : Option Addr) (c : Nat) (rg : List Rw) (st he ls le lu lr xs ep un sr E : Int) (D V : List Nat) (w : World) (hp : RwA w a rg) (hD : D.length = 16) (hV : V.length = 16) (M : World → Prop) (hM : ∀ X, Below w.heap.size w X → M X) (ck : ∀ X : World, RwA X a rg → M X → Calls Tryz.prog 30 #[.slice a rg.length c, .agg (leaseC xs ep un sr V)] X fun e w' => e = .returned (.int .i64 E) ∧ Below X.heap.size X w') (h1 : HeldOk st he lu) (h2 : xs = st) (h3 : E = 0) (h4 : ¬ he < ep) (h5 : ¬ lu < un) :
    Calls Tryz.prog 10 #[.slice a rg.length c, .agg (heldC st he ls le lu lr D), .agg (leaseC xs ep un sr V)] w fun e w' => e = .returned (.agg (keptC st he ls le lu lr D 0)) ∧ Below w.heap.size w w' := by
  have C1 := Lib.hid (fun W => rholds_any st he ls le lu lr D W hD)
  rw [decide_eq_true h1] at C1
  subst h2
  have t1 : (xs != xs) = false := by simp
  have HP := Lib.hid hp
  have C2 := Lib.hid (fun (X : World) (h : RwA X a rg) (k : M X) => ck X h k)
  have HM2 := Lib.hid hM
  subst h3
  have t2 : ((0 : Int) != 0) = false := rfl
  have t3 : decide (he < ep) = false := decide_eq_false h4
  have t4 : decide (lu < un) = false := decide_eq_false h5
  have BO := Lib.hid (big_held (st := xs) (he := he) (ls := ls) (le := le) (lu := lu) (lr := lr) hD)
  have HF := Lib.hid (show 2 + (leaseC xs ep un sr V).size ≤ (heldL xs he ls le lu lr D).length from by rw [lease_size _ _ _ _ _ hV]; unfold heldL leaseL; simp [hD])
  have BB := Lib.hid (fun (W : World) => build_kept0 xs he ls le lu lr hD W)
  have BQ := Lib.hid (big_kept xs he ls le lu lr 0 hD)
  obtain ⟨N, hN⟩ : ∃ N, rg.length = N := ⟨_, rfl⟩
  simp only [hN] at C2
  rw [hN]
  clear hN hp hM ck h1 h4 h5
  have BGh := Lib.hid (show BigR 28 (heldC xs he ls le lu lr D) from big_held hD)
  obtain ⟨Vh, hVh⟩ : ∃ C, heldC xs he ls le lu lr D = C := ⟨_, rfl⟩
  have BGl := Lib.hid (show BigR 26 (leaseC xs ep un sr V) from big_lease hV)
  obtain ⟨Vl, hVl⟩ : ∃ C, leaseC xs ep un sr V = C := ⟨_, rfl⟩
  obtain ⟨G, hG⟩ : ∃ G, w.heap.size = G := ⟨_, rfl⟩
  have HG := Lib.hid hG
  have BGr := Lib.hid (show BigR 42 (keptZ) from big_keptZ)
  obtain ⟨w0, hw0, Kh, Kl, Kr, B⟩ : ∃ X, (((w.alloc (.cells Vh 28)).alloc (.cells Vl 26)).alloc (.cells #[.int .i64 0, .int .i64 0, .int .i64 0, .int .i64 0, .int .i64 0, .int .i64 0, .int .u8 0, .int .u8 0, .int .u8 0, .int .u8 0, .int .u8 0, .int .u8 0, .int .u8 0, .int .u8 0, .int .u8 0, .int .u8 0, .int .u8 0, .int .u8 0, .int .u8 0, .int .u8 0, .int .u8 0, .int .u8 0, .int .i64 0] 42)) = X ∧ Hid (Blk X (G) 28 (heldC xs he ls le lu lr D)) ∧ Hid (Blk X (G + 1) 26 (leaseC xs ep un sr V)) ∧ Hid (Blk X (G + 1 + 1) 42 (keptZ)) ∧ Hid (Below w.heap.size w X) := ⟨_, rfl, Lib.hid (by rw [hVh]; exact ((Blk.new' _ _ _ _ hG rfl).alloc _).alloc _), Lib.hid (by rw [hVl]; exact (Blk.new' _ _ _ _ (by rw [World.size_alloc, hG]) rfl).alloc _), Lib.hid (Blk.new' _ _ _ _ (by rw [World.size_alloc, World.size_alloc, hG]) rfl), Lib.hid (by (repeat' (first | (with_reducible exact Below.refl _ _) | (with_reducible assumption) | (with_reducible refine Below.alloc ?_ ?_ _) | (with_reducible refine Below.drew ?_) | (with_reducible refine below_dn ?_) | (with_reducible refine Below.setCell ?_ ?_ _) | (with_reducible exact Nat.le_refl _) | omega | (simp only [World.size_alloc, World.size_setCell, World.size_drew]; omega) | (simp; omega) | (simp; done))))⟩
  try rw [hVh]
  have EVh := Lib.hid hVh
  clear hVh
  try rw [hVl]
  have EVl := Lib.hid hVl
  clear hVl
  go_enter Tryz.func10, Tryz.ntmps10
  go_upto_region 1 with (fail)
  try rw [hG]
  try rw [hw0]
  clear hw0 hG
  clear hD hV
  obtain ⟨bhc0, bhc1, bhc2⟩ := held_at Kh.out
  obtain ⟨blc0, blc1, blc2, blc3⟩ := lease_cells Kl.out
  go_wp2_with (first | (with_reducible refine Hs.wpList_load_all rfl 28 _ rfl (G) rfl 28 (heldC xs he ls le lu lr D) _ (Blk.hs Kh.out) Tryz.underlying28 BGh.out.info ?_))
  refine (C1.out _).mono ?_
  rintro e w1 ⟨rfl, hb⟩
  replace Kh := Lib.hid (Kh.out.below hb Kh.out.lt)
  replace Kl := Lib.hid (Kl.out.below hb Kl.out.lt)
  replace Kr := Lib.hid (Kr.out.below hb Kr.out.lt)
  replace B := Lib.hid (B.out.trans (hb.mono B.out.size))
  clear bhc0 bhc1 bhc2 blc0 blc1 blc2 blc3
  clear hb
  obtain ⟨bhc0, bhc1, bhc2⟩ := held_at Kh.out
  obtain ⟨blc0, blc1, blc2, blc3⟩ := lease_cells Kl.out
  go_wp2_with (first | (with_reducible refine Hs.wpList_load_all rfl 26 _ rfl (G + 1) rfl 26 (leaseC xs ep un sr V) _ (Blk.hs Kl.out) Tryz.underlying26 BGl.out.info ?_))
  refine (C2.out _ (HP.out.mono B.out) (HM2.out _ B.out)).mono ?_
  rintro e w2 ⟨rfl, hb⟩
  replace Kh := Lib.hid (Kh.out.below hb Kh.out.lt)
  replace Kl := Lib.hid (Kl.out.below hb Kl.out.lt)
  replace Kr := Lib.hid (Kr.out.below hb Kr.out.lt)
  replace B := Lib.hid (B.out.trans (hb.mono B.out.size))
  clear bhc0 bhc1 bhc2 blc0 blc1 blc2 blc3
  clear hb
  obtain ⟨bhc0, bhc1, bhc2⟩ := held_at Kh.out
  obtain ⟨blc0, blc1, blc2, blc3⟩ := lease_cells Kl.out
  go_wp2_with (first | (with_reducible refine Hs.wpList_load_all rfl 28 _ rfl (G) rfl 28 (heldC xs he ls le lu lr D) _ (Blk.hs Kh.out) Tryz.underlying28 BGh.out.info ?_) | (with_reducible refine wpList_build_run rfl 42 _ rfl #[(0, .agg (heldC xs he ls le lu lr D))] (by kernel_rfl) _ (BB.out _) ?_) | (with_reducible refine Hs.wpList_store_blk rfl 42 _ _ rfl (G + 1 + 1) 42 _ (keptC xs he ls le lu lr D 0) rfl rfl (Blk.hs Kr.out) BQ.out.info (big_keptZ.same BQ.out) BQ.out.one rfl ?_))
  have BZ := below_setRow B.out (show w.heap.size ≤ G + 1 + 1 by have := HG.out; omega) (keptC xs he ls le lu lr D 0)
  refine bodyPost_ret (v := .agg (keptC xs he ls le lu lr D 0)) (results_cell_row rfl _ _ _ 42 _ (0, 0) _ rfl (Kr.out.row_ _) Tryz.underlying42 rfl BQ.out.info) rfl ?_
  exact ⟨rfl, BZ⟩
set_option maxRecDepth 100000 in
set_option maxHeartbeats 4000000 in
theorem rtake2_new (a : Option Addr) (c : Nat) (rg : List Rw) (st he ls le lu lr xs ep un sr E : Int) (D V : List Nat) (w : World) (hp : RwA w a rg) (hD : D.length = 16) (hV : V.length = 16) (M : World → Prop) (hM : ∀ X, Below w.heap.size w X → M X) (ck : ∀ X : World, RwA X a rg → M X → Calls Tryz.prog 30 #[.slice a rg.length c, .agg (leaseC xs ep un sr V)] X fun e w' => e = .returned (.int .i64 E) ∧ Below X.heap.size X w') (h1 : HeldOk st he lu) (h2 : xs = st) (h3 : E = 0) (h4 : ¬ he < ep) (h5 : lu < un) :
    Calls Tryz.prog 10 #[.slice a rg.length c, .agg (heldC st he ls le lu lr D), .agg (leaseC xs ep un sr V)] w fun e w' => e = .returned (.agg (keptC st he xs ep un sr V 0)) ∧ Below w.heap.size w w' := by
  have C1 := Lib.hid (fun W => rholds_any st he ls le lu lr D W hD)
  rw [decide_eq_true h1] at C1
  subst h2
  have t1 : (xs != xs) = false := by simp
  have HP := Lib.hid hp
  have C2 := Lib.hid (fun (X : World) (h : RwA X a rg) (k : M X) => ck X h k)
  have HM2 := Lib.hid hM
  subst h3
  have t2 : ((0 : Int) != 0) = false := rfl
  have t3 : decide (he < ep) = false := decide_eq_false h4
  have t4 : decide (lu < un) = true := decide_eq_true h5
  have BO := Lib.hid (big_held (st := xs) (he := he) (ls := ls) (le := le) (lu := lu) (lr := lr) hD)
  have HF := Lib.hid (show 2 + (leaseC xs ep un sr V).size ≤ (heldL xs he ls le lu lr D).length from by rw [lease_size _ _ _ _ _ hV]; unfold heldL leaseL; simp [hD])
  have SPL := Lib.hid (held_splice xs he ls le lu lr xs ep un sr D V hD hV)
  have BN := Lib.hid (big_held (st := xs) (he := he) (ls := xs) (le := ep) (lu := un) (lr := sr) hV)
  have BB := Lib.hid (fun (W : World) => build_kept0 xs he xs ep un sr hV W)
  have BQ := Lib.hid (big_kept xs he xs ep un sr 0 hV)
  obtain ⟨N, hN⟩ : ∃ N, rg.length = N := ⟨_, rfl⟩
  simp only [hN] at C2
  rw [hN]
  clear hN hp hM ck h1 h4 h5
  have BGh := Lib.hid (show BigR 28 (heldC xs he ls le lu lr D) from big_held hD)
  obtain ⟨Vh, hVh⟩ : ∃ C, heldC xs he ls le lu lr D = C := ⟨_, rfl⟩
  have BGl := Lib.hid (show BigR 26 (leaseC xs ep un sr V) from big_lease hV)
  obtain ⟨Vl, hVl⟩ : ∃ C, leaseC xs ep un sr V = C := ⟨_, rfl⟩
  obtain ⟨G, hG⟩ : ∃ G, w.heap.size = G := ⟨_, rfl⟩
  have HG := Lib.hid hG
  have BGr := Lib.hid (show BigR 42 (keptZ) from big_keptZ)
  obtain ⟨w0, hw0, Kh, Kl, Kr, B⟩ : ∃ X, (((w.alloc (.cells Vh 28)).alloc (.cells Vl 26)).alloc (.cells #[.int .i64 0, .int .i64 0, .int .i64 0, .int .i64 0, .int .i64 0, .int .i64 0, .int .u8 0, .int .u8 0, .int .u8 0, .int .u8 0, .int .u8 0, .int .u8 0, .int .u8 0, .int .u8 0, .int .u8 0, .int .u8 0, .int .u8 0, .int .u8 0, .int .u8 0, .int .u8 0, .int .u8 0, .int .u8 0, .int .i64 0] 42)) = X ∧ Hid (Blk X (G) 28 (heldC xs he ls le lu lr D)) ∧ Hid (Blk X (G + 1) 26 (leaseC xs ep un sr V)) ∧ Hid (Blk X (G + 1 + 1) 42 (keptZ)) ∧ Hid (Below w.heap.size w X) := ⟨_, rfl, Lib.hid (by rw [hVh]; exact ((Blk.new' _ _ _ _ hG rfl).alloc _).alloc _), Lib.hid (by rw [hVl]; exact (Blk.new' _ _ _ _ (by rw [World.size_alloc, hG]) rfl).alloc _), Lib.hid (Blk.new' _ _ _ _ (by rw [World.size_alloc, World.size_alloc, hG]) rfl), Lib.hid (by (repeat' (first | (with_reducible exact Below.refl _ _) | (with_reducible assumption) | (with_reducible refine Below.alloc ?_ ?_ _) | (with_reducible refine Below.drew ?_) | (with_reducible refine below_dn ?_) | (with_reducible refine Below.setCell ?_ ?_ _) | (with_reducible exact Nat.le_refl _) | omega | (simp only [World.size_alloc, World.size_setCell, World.size_drew]; omega) | (simp; omega) | (simp; done))))⟩
  try rw [hVh]
  have EVh := Lib.hid hVh
  clear hVh
  try rw [hVl]
  have EVl := Lib.hid hVl
  clear hVl
  go_enter Tryz.func10, Tryz.ntmps10
  go_upto_region 1 with (fail)
  try rw [hG]
  try rw [hw0]
  clear hw0 hG
  clear hD hV
  obtain ⟨bhc0, bhc1, bhc2⟩ := held_at Kh.out
  obtain ⟨blc0, blc1, blc2, blc3⟩ := lease_cells Kl.out
  go_wp2_with (first | (with_reducible refine Hs.wpList_load_all rfl 28 _ rfl (G) rfl 28 (heldC xs he ls le lu lr D) _ (Blk.hs Kh.out) Tryz.underlying28 BGh.out.info ?_))
  refine (C1.out _).mono ?_
  rintro e w1 ⟨rfl, hb⟩
  replace Kh := Lib.hid (Kh.out.below hb Kh.out.lt)
  replace Kl := Lib.hid (Kl.out.below hb Kl.out.lt)
  replace Kr := Lib.hid (Kr.out.below hb Kr.out.lt)
  replace B := Lib.hid (B.out.trans (hb.mono B.out.size))
  clear bhc0 bhc1 bhc2 blc0 blc1 blc2 blc3
  clear hb
  obtain ⟨bhc0, bhc1, bhc2⟩ := held_at Kh.out
  obtain ⟨blc0, blc1, blc2, blc3⟩ := lease_cells Kl.out
  go_wp2_with (first | (with_reducible refine Hs.wpList_load_all rfl 26 _ rfl (G + 1) rfl 26 (leaseC xs ep un sr V) _ (Blk.hs Kl.out) Tryz.underlying26 BGl.out.info ?_))
  refine (C2.out _ (HP.out.mono B.out) (HM2.out _ B.out)).mono ?_
  rintro e w2 ⟨rfl, hb⟩
  replace Kh := Lib.hid (Kh.out.below hb Kh.out.lt)
  replace Kl := Lib.hid (Kl.out.below hb Kl.out.lt)
  replace Kr := Lib.hid (Kr.out.below hb Kr.out.lt)
  replace B := Lib.hid (B.out.trans (hb.mono B.out.size))
  clear bhc0 bhc1 bhc2 blc0 blc1 blc2 blc3
  clear hb
  obtain ⟨bhc0, bhc1, bhc2⟩ := held_at Kh.out
  obtain ⟨blc0, blc1, blc2, blc3⟩ := lease_cells Kl.out
  have HM := Lib.hid (show Hs.Blk w2 G 28 (heldL xs he ls le lu lr D).toArray from Kh.out)
  go_upto_region 10 with (first | (with_reducible refine Hs.wpList_load_all rfl 26 _ rfl (G + 1) rfl 26 (leaseC xs ep un sr V) _ (Blk.hs Kl.out) Tryz.underlying26 BGl.out.info ?_) | (with_reducible refine wpList_store_mid rfl 26 _ _ rfl G 2 28 (heldL xs he ls le lu lr D) (leaseC xs ep un sr V) rfl rfl HM.out BGl.out.info HF.out BGl.out.one rfl ?_))
  rw [SPL.out]
  replace Kh := Lib.hid (show Blk (w2.setRow G (heldC xs he xs ep un sr V)) G 28 (heldC xs he xs ep un sr V) from Kh.out.row_ _)
  replace Kr := Lib.hid (show Blk (w2.setRow G (heldC xs he xs ep un sr V)) (G + 1 + 1) _ _ from Kr.out.rowfar (by omega) _)
  replace B := Lib.hid (below_setRow B.out (show w.heap.size ≤ G by have := HG.out; omega) (heldC xs he xs ep un sr V))
  generalize hw : (w2.setRow G (heldC xs he xs ep un sr V)) = w3 at Kh Kr B ⊢
  clear bhc0 bhc1 bhc2 blc0 blc1 blc2 blc3
  clear hw Kl BGh HM
  have BGh := BN
  go_wp2_with (first | (with_reducible refine Hs.wpList_load_all rfl 28 _ rfl (G) rfl 28 (heldC xs he xs ep un sr V) _ (Blk.hs Kh.out) Tryz.underlying28 BGh.out.info ?_) | (with_reducible refine wpList_build_run rfl 42 _ rfl #[(0, .agg (heldC xs he xs ep un sr V))] (by kernel_rfl) _ (BB.out _) ?_) | (with_reducible refine Hs.wpList_store_blk rfl 42 _ _ rfl (G + 1 + 1) 42 _ (keptC xs he xs ep un sr V 0) rfl rfl (Blk.hs Kr.out) BQ.out.info (big_keptZ.same BQ.out) BQ.out.one rfl ?_))
  have BZ := below_setRow B.out (show w.heap.size ≤ G + 1 + 1 by have := HG.out; omega) (keptC xs he xs ep un sr V 0)
  refine bodyPost_ret (v := .agg (keptC xs he xs ep un sr V 0)) (results_cell_row rfl _ _ _ 42 _ (0, 0) _ rfl (Kr.out.row_ _) Tryz.underlying42 rfl BQ.out.info) rfl ?_
  exact ⟨rfl, BZ⟩
set_option maxRecDepth 100000 in
set_option maxHeartbeats 4000000 in
theorem rworth_1 (st he ls le lu lr : Int) (D : List Nat) (cl clo chi cd x : Int) (w : World) (hD : D.length = 16) (h1 : ¬ HeldOk st he lu) :
    Calls Tryz.prog 11 #[.agg (heldC st he ls le lu lr D), clk cl clo chi cd, .int .i64 x] w fun e w' => e = .returned (.agg #[.int .i64 0, .int .i64 1]) ∧ Below w.heap.size w w' := by
  have C1 := Lib.hid (fun W => rholds_any st he ls le lu lr D W hD)
  rw [decide_eq_false h1] at C1
  clear h1
  have BGh := Lib.hid (show BigR 28 (heldC st he ls le lu lr D) from big_held hD)
  obtain ⟨Vh, hVh⟩ : ∃ C, heldC st he ls le lu lr D = C := ⟨_, rfl⟩
  obtain ⟨G, hG⟩ : ∃ G, w.heap.size = G := ⟨_, rfl⟩
  have HG := Lib.hid hG
  obtain ⟨w0, hw0, Kh, Kc, Kr, B⟩ : ∃ X, (((w.alloc (.cells Vh 28)).alloc (.cells #[.int .i64 cl, .int .i64 clo, .int .i64 chi, .int .i64 cd] 32)).alloc (.cells #[.int .i64 0, .int .i64 0] 46)) = X ∧ Hid (Blk X (G) 28 (heldC st he ls le lu lr D)) ∧ Hid (Blk X (G + 1) 32 #[.int .i64 cl, .int .i64 clo, .int .i64 chi, .int .i64 cd]) ∧ Hid (Blk X (G + 1 + 1) 46 #[.int .i64 0, .int .i64 0]) ∧ Hid (Below w.heap.size w X) := ⟨_, rfl, Lib.hid (by rw [hVh]; exact ((Blk.new' _ _ _ _ hG rfl).alloc _).alloc _), Lib.hid ((Blk.new' _ _ _ _ (by rw [World.size_alloc, hG]) rfl).alloc _), Lib.hid (Blk.new' _ _ _ _ (by rw [World.size_alloc, World.size_alloc, hG]) rfl), Lib.hid (by (repeat' (first | (with_reducible exact Below.refl _ _) | (with_reducible assumption) | (with_reducible refine Below.alloc ?_ ?_ _) | (with_reducible refine Below.drew ?_) | (with_reducible refine below_dn ?_) | (with_reducible refine Below.setCell ?_ ?_ _) | (with_reducible exact Nat.le_refl _) | omega | (simp only [World.size_alloc, World.size_setCell, World.size_drew]; omega) | (simp; omega) | (simp; done))))⟩
  try rw [hVh]
  have EVh := Lib.hid hVh
  clear hVh
  go_enter Tryz.func11, Tryz.ntmps11
  go_upto_region 1 with (fail)
  try rw [hG]
  try rw [hw0]
  clear hw0 hG
  obtain ⟨bhc0, bhc1, bhc2⟩ := held_at Kh.out
  obtain ⟨bcc0, bcc1, bcc2, bcc3⟩ := four Kc.out
  obtain ⟨brc0, brc1⟩ := twob Kr.out
  go_wp2_with (first | (with_reducible refine Hs.wpList_load_all rfl 28 _ rfl (G) rfl 28 (heldC st he ls le lu lr D) _ (Blk.hs Kh.out) Tryz.underlying28 BGh.out.info ?_))
  refine (C1.out _).mono ?_
  rintro e w1 ⟨rfl, hb⟩
  replace Kh := Lib.hid (Kh.out.below hb Kh.out.lt)
  replace Kc := Lib.hid (Kc.out.below hb Kc.out.lt)
  replace Kr := Lib.hid (Kr.out.below hb Kr.out.lt)
  replace B := Lib.hid (B.out.trans (hb.mono B.out.size))
  clear bhc0 bhc1 bhc2 bcc0 bcc1 bcc2 bcc3 brc0 brc1
  clear hb
  obtain ⟨bhc0, bhc1, bhc2⟩ := held_at Kh.out
  obtain ⟨bcc0, bcc1, bcc2, bcc3⟩ := four Kc.out
  obtain ⟨brc0, brc1⟩ := twob Kr.out
  clear bhc0 bhc1 bhc2 bcc0 bcc1 bcc2 bcc3 brc0 brc1
  obtain ⟨bhc0, bhc1, bhc2⟩ := held_at Kh.out
  obtain ⟨bcc0, bcc1, bcc2, bcc3⟩ := four Kc.out
  obtain ⟨brc0, brc1⟩ := twob Kr.out
  have fzr := fun q => Kr.out.frozen q
  replace Kr := Lib.hid (show Blk (w1.setCell ⟨G + 1 + 1, 0, none⟩ (.int .i64 0)) (G + 1 + 1) 46 #[.int .i64 0, .int .i64 0] from Kr.out.set_ 0 (.int .i64 0))
  replace B := Lib.hid (show Below w.heap.size w (w1.setCell ⟨G + 1 + 1, 0, none⟩ (.int .i64 0)) from B.out.setCell (p := ⟨G + 1 + 1, 0, none⟩) (show w.heap.size ≤ G + 1 + 1 by have := HG.out; omega) (.int .i64 0))
  replace Kr := Lib.hid (show Blk ((w1.setCell ⟨G + 1 + 1, 0, none⟩ (.int .i64 0)).setCell ⟨G + 1 + 1, 1, none⟩ (.int .i64 1)) (G + 1 + 1) 46 #[.int .i64 0, .int .i64 1] from Kr.out.set_ 1 (.int .i64 1))
  replace B := Lib.hid (show Below w.heap.size w ((w1.setCell ⟨G + 1 + 1, 0, none⟩ (.int .i64 0)).setCell ⟨G + 1 + 1, 1, none⟩ (.int .i64 1)) from B.out.setCell (p := ⟨G + 1 + 1, 1, none⟩) (show w.heap.size ≤ G + 1 + 1 by have := HG.out; omega) (.int .i64 1))
  go_wp2
  generalize hw : ((w1.setCell ⟨G + 1 + 1, 0, none⟩ (.int .i64 0)).setCell ⟨G + 1 + 1, 1, none⟩ (.int .i64 1)) = w2 at Kr  B ⊢
  clear bhc0 bhc1 bhc2 bcc0 bcc1 bcc2 bcc3 brc0 brc1 fzr
  clear hw
  obtain ⟨d0, d1⟩ := twob Kr.out
  refine bodyPost_ret (by simp [results, Tryz.results11, go_sem, d0, d1]; try rfl) rfl ?_
  exact ⟨rfl, B.out⟩
set_option maxRecDepth 100000 in
set_option maxHeartbeats 4000000 in
theorem rworth_2 (st he ls le lu lr : Int) (D : List Nat) (cl clo chi cd x : Int) (w : World) (hD : D.length = 16) (h1 : HeldOk st he lu) (h2 : chkB cl clo chi cd = false) :
    Calls Tryz.prog 11 #[.agg (heldC st he ls le lu lr D), clk cl clo chi cd, .int .i64 x] w fun e w' => e = .returned (.agg #[.int .i64 0, .int .i64 1]) ∧ Below w.heap.size w w' := by
  have C1 := Lib.hid (fun W => rholds_any st he ls le lu lr D W hD)
  rw [decide_eq_true h1] at C1
  have C2 := Lib.hid (fun W => checkref_no cl clo chi cd W h2)
  clear h1 h2
  have BGh := Lib.hid (show BigR 28 (heldC st he ls le lu lr D) from big_held hD)
  obtain ⟨Vh, hVh⟩ : ∃ C, heldC st he ls le lu lr D = C := ⟨_, rfl⟩
  obtain ⟨G, hG⟩ : ∃ G, w.heap.size = G := ⟨_, rfl⟩
  have HG := Lib.hid hG
  obtain ⟨w0, hw0, Kh, Kc, Kr, B⟩ : ∃ X, (((w.alloc (.cells Vh 28)).alloc (.cells #[.int .i64 cl, .int .i64 clo, .int .i64 chi, .int .i64 cd] 32)).alloc (.cells #[.int .i64 0, .int .i64 0] 46)) = X ∧ Hid (Blk X (G) 28 (heldC st he ls le lu lr D)) ∧ Hid (Blk X (G + 1) 32 #[.int .i64 cl, .int .i64 clo, .int .i64 chi, .int .i64 cd]) ∧ Hid (Blk X (G + 1 + 1) 46 #[.int .i64 0, .int .i64 0]) ∧ Hid (Below w.heap.size w X) := ⟨_, rfl, Lib.hid (by rw [hVh]; exact ((Blk.new' _ _ _ _ hG rfl).alloc _).alloc _), Lib.hid ((Blk.new' _ _ _ _ (by rw [World.size_alloc, hG]) rfl).alloc _), Lib.hid (Blk.new' _ _ _ _ (by rw [World.size_alloc, World.size_alloc, hG]) rfl), Lib.hid (by (repeat' (first | (with_reducible exact Below.refl _ _) | (with_reducible assumption) | (with_reducible refine Below.alloc ?_ ?_ _) | (with_reducible refine Below.drew ?_) | (with_reducible refine below_dn ?_) | (with_reducible refine Below.setCell ?_ ?_ _) | (with_reducible exact Nat.le_refl _) | omega | (simp only [World.size_alloc, World.size_setCell, World.size_drew]; omega) | (simp; omega) | (simp; done))))⟩
  try rw [hVh]
  have EVh := Lib.hid hVh
  clear hVh
  go_enter Tryz.func11, Tryz.ntmps11
  go_upto_region 1 with (fail)
  try rw [hG]
  try rw [hw0]
  clear hw0 hG
  obtain ⟨bhc0, bhc1, bhc2⟩ := held_at Kh.out
  obtain ⟨bcc0, bcc1, bcc2, bcc3⟩ := four Kc.out
  obtain ⟨brc0, brc1⟩ := twob Kr.out
  go_wp2_with (first | (with_reducible refine Hs.wpList_load_all rfl 28 _ rfl (G) rfl 28 (heldC st he ls le lu lr D) _ (Blk.hs Kh.out) Tryz.underlying28 BGh.out.info ?_))
  refine (C1.out _).mono ?_
  rintro e w1 ⟨rfl, hb⟩
  replace Kh := Lib.hid (Kh.out.below hb Kh.out.lt)
  replace Kc := Lib.hid (Kc.out.below hb Kc.out.lt)
  replace Kr := Lib.hid (Kr.out.below hb Kr.out.lt)
  replace B := Lib.hid (B.out.trans (hb.mono B.out.size))
  clear bhc0 bhc1 bhc2 bcc0 bcc1 bcc2 bcc3 brc0 brc1
  clear hb
  obtain ⟨bhc0, bhc1, bhc2⟩ := held_at Kh.out
  obtain ⟨bcc0, bcc1, bcc2, bcc3⟩ := four Kc.out
  obtain ⟨brc0, brc1⟩ := twob Kr.out
  go_wp2_with (fail)
  refine (C2.out _).mono ?_
  rintro e w2 ⟨rfl, hb⟩
  replace Kh := Lib.hid (Kh.out.below hb Kh.out.lt)
  replace Kc := Lib.hid (Kc.out.below hb Kc.out.lt)
  replace Kr := Lib.hid (Kr.out.below hb Kr.out.lt)
  replace B := Lib.hid (B.out.trans (hb.mono B.out.size))
  clear bhc0 bhc1 bhc2 bcc0 bcc1 bcc2 bcc3 brc0 brc1
  clear hb
  obtain ⟨bhc0, bhc1, bhc2⟩ := held_at Kh.out
  obtain ⟨bcc0, bcc1, bcc2, bcc3⟩ := four Kc.out
  obtain ⟨brc0, brc1⟩ := twob Kr.out
  clear bhc0 bhc1 bhc2 bcc0 bcc1 bcc2 bcc3 brc0 brc1
  obtain ⟨bhc0, bhc1, bhc2⟩ := held_at Kh.out
  obtain ⟨bcc0, bcc1, bcc2, bcc3⟩ := four Kc.out
  obtain ⟨brc0, brc1⟩ := twob Kr.out
  have fzr := fun q => Kr.out.frozen q
  replace Kr := Lib.hid (show Blk (w2.setCell ⟨G + 1 + 1, 0, none⟩ (.int .i64 0)) (G + 1 + 1) 46 #[.int .i64 0, .int .i64 0] from Kr.out.set_ 0 (.int .i64 0))
  replace B := Lib.hid (show Below w.heap.size w (w2.setCell ⟨G + 1 + 1, 0, none⟩ (.int .i64 0)) from B.out.setCell (p := ⟨G + 1 + 1, 0, none⟩) (show w.heap.size ≤ G + 1 + 1 by have := HG.out; omega) (.int .i64 0))
  replace Kr := Lib.hid (show Blk ((w2.setCell ⟨G + 1 + 1, 0, none⟩ (.int .i64 0)).setCell ⟨G + 1 + 1, 1, none⟩ (.int .i64 1)) (G + 1 + 1) 46 #[.int .i64 0, .int .i64 1] from Kr.out.set_ 1 (.int .i64 1))
  replace B := Lib.hid (show Below w.heap.size w ((w2.setCell ⟨G + 1 + 1, 0, none⟩ (.int .i64 0)).setCell ⟨G + 1 + 1, 1, none⟩ (.int .i64 1)) from B.out.setCell (p := ⟨G + 1 + 1, 1, none⟩) (show w.heap.size ≤ G + 1 + 1 by have := HG.out; omega) (.int .i64 1))
  go_wp2
  generalize hw : ((w2.setCell ⟨G + 1 + 1, 0, none⟩ (.int .i64 0)).setCell ⟨G + 1 + 1, 1, none⟩ (.int .i64 1)) = w3 at Kr  B ⊢
  clear bhc0 bhc1 bhc2 bcc0 bcc1 bcc2 bcc3 brc0 brc1 fzr
  clear hw
  obtain ⟨d0, d1⟩ := twob Kr.out
  refine bodyPost_ret (by simp [results, Tryz.results11, go_sem, d0, d1]; try rfl) rfl ?_
  exact ⟨rfl, B.out⟩
set_option maxRecDepth 100000 in
set_option maxHeartbeats 4000000 in
theorem rworth_3 (st he ls le lu lr : Int) (D : List Nat) (cl clo chi cd x : Int) (w : World) (hD : D.length = 16) (h1 : HeldOk st he lu) (h2 : OkClk cl clo chi cd) (h3 : x < cl) :
    Calls Tryz.prog 11 #[.agg (heldC st he ls le lu lr D), clk cl clo chi cd, .int .i64 x] w fun e w' => e = .returned (.agg #[.int .i64 0, .int .i64 1]) ∧ Below w.heap.size w w' := by
  have C1 := Lib.hid (fun W => rholds_any st he ls le lu lr D W hD)
  rw [decide_eq_true h1] at C1
  have C2 := Lib.hid (fun W => checkref_yes cl clo chi cd W h2)
  have t1 : decide (x < cl) = true := decide_eq_true h3
  clear h1 h3 h2
  have BGh := Lib.hid (show BigR 28 (heldC st he ls le lu lr D) from big_held hD)
  obtain ⟨Vh, hVh⟩ : ∃ C, heldC st he ls le lu lr D = C := ⟨_, rfl⟩
  obtain ⟨G, hG⟩ : ∃ G, w.heap.size = G := ⟨_, rfl⟩
  have HG := Lib.hid hG
  obtain ⟨w0, hw0, Kh, Kc, Kr, B⟩ : ∃ X, (((w.alloc (.cells Vh 28)).alloc (.cells #[.int .i64 cl, .int .i64 clo, .int .i64 chi, .int .i64 cd] 32)).alloc (.cells #[.int .i64 0, .int .i64 0] 46)) = X ∧ Hid (Blk X (G) 28 (heldC st he ls le lu lr D)) ∧ Hid (Blk X (G + 1) 32 #[.int .i64 cl, .int .i64 clo, .int .i64 chi, .int .i64 cd]) ∧ Hid (Blk X (G + 1 + 1) 46 #[.int .i64 0, .int .i64 0]) ∧ Hid (Below w.heap.size w X) := ⟨_, rfl, Lib.hid (by rw [hVh]; exact ((Blk.new' _ _ _ _ hG rfl).alloc _).alloc _), Lib.hid ((Blk.new' _ _ _ _ (by rw [World.size_alloc, hG]) rfl).alloc _), Lib.hid (Blk.new' _ _ _ _ (by rw [World.size_alloc, World.size_alloc, hG]) rfl), Lib.hid (by (repeat' (first | (with_reducible exact Below.refl _ _) | (with_reducible assumption) | (with_reducible refine Below.alloc ?_ ?_ _) | (with_reducible refine Below.drew ?_) | (with_reducible refine below_dn ?_) | (with_reducible refine Below.setCell ?_ ?_ _) | (with_reducible exact Nat.le_refl _) | omega | (simp only [World.size_alloc, World.size_setCell, World.size_drew]; omega) | (simp; omega) | (simp; done))))⟩
  try rw [hVh]
  have EVh := Lib.hid hVh
  clear hVh
  go_enter Tryz.func11, Tryz.ntmps11
  go_upto_region 1 with (fail)
  try rw [hG]
  try rw [hw0]
  clear hw0 hG
  obtain ⟨bhc0, bhc1, bhc2⟩ := held_at Kh.out
  obtain ⟨bcc0, bcc1, bcc2, bcc3⟩ := four Kc.out
  obtain ⟨brc0, brc1⟩ := twob Kr.out
  go_wp2_with (first | (with_reducible refine Hs.wpList_load_all rfl 28 _ rfl (G) rfl 28 (heldC st he ls le lu lr D) _ (Blk.hs Kh.out) Tryz.underlying28 BGh.out.info ?_))
  refine (C1.out _).mono ?_
  rintro e w1 ⟨rfl, hb⟩
  replace Kh := Lib.hid (Kh.out.below hb Kh.out.lt)
  replace Kc := Lib.hid (Kc.out.below hb Kc.out.lt)
  replace Kr := Lib.hid (Kr.out.below hb Kr.out.lt)
  replace B := Lib.hid (B.out.trans (hb.mono B.out.size))
  clear bhc0 bhc1 bhc2 bcc0 bcc1 bcc2 bcc3 brc0 brc1
  clear hb
  obtain ⟨bhc0, bhc1, bhc2⟩ := held_at Kh.out
  obtain ⟨bcc0, bcc1, bcc2, bcc3⟩ := four Kc.out
  obtain ⟨brc0, brc1⟩ := twob Kr.out
  go_wp2_with (fail)
  refine (C2.out _).mono ?_
  rintro e w2 ⟨rfl, hb⟩
  replace Kh := Lib.hid (Kh.out.below hb Kh.out.lt)
  replace Kc := Lib.hid (Kc.out.below hb Kc.out.lt)
  replace Kr := Lib.hid (Kr.out.below hb Kr.out.lt)
  replace B := Lib.hid (B.out.trans (hb.mono B.out.size))
  clear bhc0 bhc1 bhc2 bcc0 bcc1 bcc2 bcc3 brc0 brc1
  clear hb
  obtain ⟨bhc0, bhc1, bhc2⟩ := held_at Kh.out
  obtain ⟨bcc0, bcc1, bcc2, bcc3⟩ := four Kc.out
  obtain ⟨brc0, brc1⟩ := twob Kr.out
  clear bhc0 bhc1 bhc2 bcc0 bcc1 bcc2 bcc3 brc0 brc1
  obtain ⟨bhc0, bhc1, bhc2⟩ := held_at Kh.out
  obtain ⟨bcc0, bcc1, bcc2, bcc3⟩ := four Kc.out
  obtain ⟨brc0, brc1⟩ := twob Kr.out
  have fzr := fun q => Kr.out.frozen q
  replace Kr := Lib.hid (show Blk (w2.setCell ⟨G + 1 + 1, 0, none⟩ (.int .i64 0)) (G + 1 + 1) 46 #[.int .i64 0, .int .i64 0] from Kr.out.set_ 0 (.int .i64 0))
  replace B := Lib.hid (show Below w.heap.size w (w2.setCell ⟨G + 1 + 1, 0, none⟩ (.int .i64 0)) from B.out.setCell (p := ⟨G + 1 + 1, 0, none⟩) (show w.heap.size ≤ G + 1 + 1 by have := HG.out; omega) (.int .i64 0))
  replace Kr := Lib.hid (show Blk ((w2.setCell ⟨G + 1 + 1, 0, none⟩ (.int .i64 0)).setCell ⟨G + 1 + 1, 1, none⟩ (.int .i64 1)) (G + 1 + 1) 46 #[.int .i64 0, .int .i64 1] from Kr.out.set_ 1 (.int .i64 1))
  replace B := Lib.hid (show Below w.heap.size w ((w2.setCell ⟨G + 1 + 1, 0, none⟩ (.int .i64 0)).setCell ⟨G + 1 + 1, 1, none⟩ (.int .i64 1)) from B.out.setCell (p := ⟨G + 1 + 1, 1, none⟩) (show w.heap.size ≤ G + 1 + 1 by have := HG.out; omega) (.int .i64 1))
  go_wp2
  generalize hw : ((w2.setCell ⟨G + 1 + 1, 0, none⟩ (.int .i64 0)).setCell ⟨G + 1 + 1, 1, none⟩ (.int .i64 1)) = w3 at Kr  B ⊢
  clear bhc0 bhc1 bhc2 bcc0 bcc1 bcc2 bcc3 brc0 brc1 fzr
  clear hw
  obtain ⟨d0, d1⟩ := twob Kr.out
  refine bodyPost_ret (by simp [results, Tryz.results11, go_sem, d0, d1]; try rfl) rfl ?_
  exact ⟨rfl, B.out⟩
set_option maxRecDepth 100000 in
set_option maxHeartbeats 4000000 in
theorem rworth_4 (st he ls le lu lr : Int) (D : List Nat) (cl clo chi cd x : Int) (w : World) (hD : D.length = 16) (h1 : HeldOk st he lu) (h2 : OkClk cl clo chi cd) (h3 : ¬ x < cl) (h4 : 2199023255552 < x) :
    Calls Tryz.prog 11 #[.agg (heldC st he ls le lu lr D), clk cl clo chi cd, .int .i64 x] w fun e w' => e = .returned (.agg #[.int .i64 0, .int .i64 1]) ∧ Below w.heap.size w w' := by
  have C1 := Lib.hid (fun W => rholds_any st he ls le lu lr D W hD)
  rw [decide_eq_true h1] at C1
  have C2 := Lib.hid (fun W => checkref_yes cl clo chi cd W h2)
  have t1 : decide (x < cl) = false := decide_eq_false h3
  have t2 : decide (2199023255552 < x) = true := decide_eq_true h4
  clear h1 h3 h4 h2
  have BGh := Lib.hid (show BigR 28 (heldC st he ls le lu lr D) from big_held hD)
  obtain ⟨Vh, hVh⟩ : ∃ C, heldC st he ls le lu lr D = C := ⟨_, rfl⟩
  obtain ⟨G, hG⟩ : ∃ G, w.heap.size = G := ⟨_, rfl⟩
  have HG := Lib.hid hG
  obtain ⟨w0, hw0, Kh, Kc, Kr, B⟩ : ∃ X, (((w.alloc (.cells Vh 28)).alloc (.cells #[.int .i64 cl, .int .i64 clo, .int .i64 chi, .int .i64 cd] 32)).alloc (.cells #[.int .i64 0, .int .i64 0] 46)) = X ∧ Hid (Blk X (G) 28 (heldC st he ls le lu lr D)) ∧ Hid (Blk X (G + 1) 32 #[.int .i64 cl, .int .i64 clo, .int .i64 chi, .int .i64 cd]) ∧ Hid (Blk X (G + 1 + 1) 46 #[.int .i64 0, .int .i64 0]) ∧ Hid (Below w.heap.size w X) := ⟨_, rfl, Lib.hid (by rw [hVh]; exact ((Blk.new' _ _ _ _ hG rfl).alloc _).alloc _), Lib.hid ((Blk.new' _ _ _ _ (by rw [World.size_alloc, hG]) rfl).alloc _), Lib.hid (Blk.new' _ _ _ _ (by rw [World.size_alloc, World.size_alloc, hG]) rfl), Lib.hid (by (repeat' (first | (with_reducible exact Below.refl _ _) | (with_reducible assumption) | (with_reducible refine Below.alloc ?_ ?_ _) | (with_reducible refine Below.drew ?_) | (with_reducible refine below_dn ?_) | (with_reducible refine Below.setCell ?_ ?_ _) | (with_reducible exact Nat.le_refl _) | omega | (simp only [World.size_alloc, World.size_setCell, World.size_drew]; omega) | (simp; omega) | (simp; done))))⟩
  try rw [hVh]
  have EVh := Lib.hid hVh
  clear hVh
  go_enter Tryz.func11, Tryz.ntmps11
  go_upto_region 1 with (fail)
  try rw [hG]
  try rw [hw0]
  clear hw0 hG
  obtain ⟨bhc0, bhc1, bhc2⟩ := held_at Kh.out
  obtain ⟨bcc0, bcc1, bcc2, bcc3⟩ := four Kc.out
  obtain ⟨brc0, brc1⟩ := twob Kr.out
  go_wp2_with (first | (with_reducible refine Hs.wpList_load_all rfl 28 _ rfl (G) rfl 28 (heldC st he ls le lu lr D) _ (Blk.hs Kh.out) Tryz.underlying28 BGh.out.info ?_))
  refine (C1.out _).mono ?_
  rintro e w1 ⟨rfl, hb⟩
  replace Kh := Lib.hid (Kh.out.below hb Kh.out.lt)
  replace Kc := Lib.hid (Kc.out.below hb Kc.out.lt)
  replace Kr := Lib.hid (Kr.out.below hb Kr.out.lt)
  replace B := Lib.hid (B.out.trans (hb.mono B.out.size))
  clear bhc0 bhc1 bhc2 bcc0 bcc1 bcc2 bcc3 brc0 brc1
  clear hb
  obtain ⟨bhc0, bhc1, bhc2⟩ := held_at Kh.out
  obtain ⟨bcc0, bcc1, bcc2, bcc3⟩ := four Kc.out
  obtain ⟨brc0, brc1⟩ := twob Kr.out
  go_wp2_with (fail)
  refine (C2.out _).mono ?_
  rintro e w2 ⟨rfl, hb⟩
  replace Kh := Lib.hid (Kh.out.below hb Kh.out.lt)
  replace Kc := Lib.hid (Kc.out.below hb Kc.out.lt)
  replace Kr := Lib.hid (Kr.out.below hb Kr.out.lt)
  replace B := Lib.hid (B.out.trans (hb.mono B.out.size))
  clear bhc0 bhc1 bhc2 bcc0 bcc1 bcc2 bcc3 brc0 brc1
  clear hb
  obtain ⟨bhc0, bhc1, bhc2⟩ := held_at Kh.out
  obtain ⟨bcc0, bcc1, bcc2, bcc3⟩ := four Kc.out
  obtain ⟨brc0, brc1⟩ := twob Kr.out
  clear bhc0 bhc1 bhc2 bcc0 bcc1 bcc2 bcc3 brc0 brc1
  obtain ⟨bhc0, bhc1, bhc2⟩ := held_at Kh.out
  obtain ⟨bcc0, bcc1, bcc2, bcc3⟩ := four Kc.out
  obtain ⟨brc0, brc1⟩ := twob Kr.out
  have fzr := fun q => Kr.out.frozen q
  replace Kr := Lib.hid (show Blk (w2.setCell ⟨G + 1 + 1, 0, none⟩ (.int .i64 0)) (G + 1 + 1) 46 #[.int .i64 0, .int .i64 0] from Kr.out.set_ 0 (.int .i64 0))
  replace B := Lib.hid (show Below w.heap.size w (w2.setCell ⟨G + 1 + 1, 0, none⟩ (.int .i64 0)) from B.out.setCell (p := ⟨G + 1 + 1, 0, none⟩) (show w.heap.size ≤ G + 1 + 1 by have := HG.out; omega) (.int .i64 0))
  replace Kr := Lib.hid (show Blk ((w2.setCell ⟨G + 1 + 1, 0, none⟩ (.int .i64 0)).setCell ⟨G + 1 + 1, 1, none⟩ (.int .i64 1)) (G + 1 + 1) 46 #[.int .i64 0, .int .i64 1] from Kr.out.set_ 1 (.int .i64 1))
  replace B := Lib.hid (show Below w.heap.size w ((w2.setCell ⟨G + 1 + 1, 0, none⟩ (.int .i64 0)).setCell ⟨G + 1 + 1, 1, none⟩ (.int .i64 1)) from B.out.setCell (p := ⟨G + 1 + 1, 1, none⟩) (show w.heap.size ≤ G + 1 + 1 by have := HG.out; omega) (.int .i64 1))
  go_wp2
  generalize hw : ((w2.setCell ⟨G + 1 + 1, 0, none⟩ (.int .i64 0)).setCell ⟨G + 1 + 1, 1, none⟩ (.int .i64 1)) = w3 at Kr  B ⊢
  clear bhc0 bhc1 bhc2 bcc0 bcc1 bcc2 bcc3 brc0 brc1 fzr
  clear hw
  obtain ⟨d0, d1⟩ := twob Kr.out
  refine bodyPost_ret (by simp [results, Tryz.results11, go_sem, d0, d1]; try rfl) rfl ?_
  exact ⟨rfl, B.out⟩
set_option maxRecDepth 100000 in
set_option maxHeartbeats 4000000 in
theorem rworth_5 (st he ls le lu lr : Int) (D : List Nat) (cl clo chi cd x : Int) (w : World) (hD : D.length = 16) (h1 : HeldOk st he lu) (h2 : OkClk cl clo chi cd) (h3 : cl ≤ x ∧ x ≤ 2199023255552) (h4 : lu = 0) :
    Calls Tryz.prog 11 #[.agg (heldC st he ls le lu lr D), clk cl clo chi cd, .int .i64 x] w fun e w' => e = .returned (.agg #[.int .i64 0, .int .i64 0]) ∧ Below w.heap.size w w' := by
  have C1 := Lib.hid (fun W => rholds_any st he ls le lu lr D W hD)
  rw [decide_eq_true h1] at C1
  have C2 := Lib.hid (fun W => checkref_yes cl clo chi cd W h2)
  have t1 : decide (x < cl) = false := decide_eq_false (by omega)
  have t2 : decide (2199023255552 < x) = false := decide_eq_false (by omega)
  have t3 : (lu == 0) = true := beq_iff_eq.2 h4
  clear h1 h3 h4 h2
  have BGh := Lib.hid (show BigR 28 (heldC st he ls le lu lr D) from big_held hD)
  obtain ⟨Vh, hVh⟩ : ∃ C, heldC st he ls le lu lr D = C := ⟨_, rfl⟩
  obtain ⟨G, hG⟩ : ∃ G, w.heap.size = G := ⟨_, rfl⟩
  have HG := Lib.hid hG
  obtain ⟨w0, hw0, Kh, Kc, Kr, B⟩ : ∃ X, (((w.alloc (.cells Vh 28)).alloc (.cells #[.int .i64 cl, .int .i64 clo, .int .i64 chi, .int .i64 cd] 32)).alloc (.cells #[.int .i64 0, .int .i64 0] 46)) = X ∧ Hid (Blk X (G) 28 (heldC st he ls le lu lr D)) ∧ Hid (Blk X (G + 1) 32 #[.int .i64 cl, .int .i64 clo, .int .i64 chi, .int .i64 cd]) ∧ Hid (Blk X (G + 1 + 1) 46 #[.int .i64 0, .int .i64 0]) ∧ Hid (Below w.heap.size w X) := ⟨_, rfl, Lib.hid (by rw [hVh]; exact ((Blk.new' _ _ _ _ hG rfl).alloc _).alloc _), Lib.hid ((Blk.new' _ _ _ _ (by rw [World.size_alloc, hG]) rfl).alloc _), Lib.hid (Blk.new' _ _ _ _ (by rw [World.size_alloc, World.size_alloc, hG]) rfl), Lib.hid (by (repeat' (first | (with_reducible exact Below.refl _ _) | (with_reducible assumption) | (with_reducible refine Below.alloc ?_ ?_ _) | (with_reducible refine Below.drew ?_) | (with_reducible refine below_dn ?_) | (with_reducible refine Below.setCell ?_ ?_ _) | (with_reducible exact Nat.le_refl _) | omega | (simp only [World.size_alloc, World.size_setCell, World.size_drew]; omega) | (simp; omega) | (simp; done))))⟩
  try rw [hVh]
  have EVh := Lib.hid hVh
  clear hVh
  go_enter Tryz.func11, Tryz.ntmps11
  go_upto_region 1 with (fail)
  try rw [hG]
  try rw [hw0]
  clear hw0 hG
  obtain ⟨bhc0, bhc1, bhc2⟩ := held_at Kh.out
  obtain ⟨bcc0, bcc1, bcc2, bcc3⟩ := four Kc.out
  obtain ⟨brc0, brc1⟩ := twob Kr.out
  go_wp2_with (first | (with_reducible refine Hs.wpList_load_all rfl 28 _ rfl (G) rfl 28 (heldC st he ls le lu lr D) _ (Blk.hs Kh.out) Tryz.underlying28 BGh.out.info ?_))
  refine (C1.out _).mono ?_
  rintro e w1 ⟨rfl, hb⟩
  replace Kh := Lib.hid (Kh.out.below hb Kh.out.lt)
  replace Kc := Lib.hid (Kc.out.below hb Kc.out.lt)
  replace Kr := Lib.hid (Kr.out.below hb Kr.out.lt)
  replace B := Lib.hid (B.out.trans (hb.mono B.out.size))
  clear bhc0 bhc1 bhc2 bcc0 bcc1 bcc2 bcc3 brc0 brc1
  clear hb
  obtain ⟨bhc0, bhc1, bhc2⟩ := held_at Kh.out
  obtain ⟨bcc0, bcc1, bcc2, bcc3⟩ := four Kc.out
  obtain ⟨brc0, brc1⟩ := twob Kr.out
  go_wp2_with (fail)
  refine (C2.out _).mono ?_
  rintro e w2 ⟨rfl, hb⟩
  replace Kh := Lib.hid (Kh.out.below hb Kh.out.lt)
  replace Kc := Lib.hid (Kc.out.below hb Kc.out.lt)
  replace Kr := Lib.hid (Kr.out.below hb Kr.out.lt)
  replace B := Lib.hid (B.out.trans (hb.mono B.out.size))
  clear bhc0 bhc1 bhc2 bcc0 bcc1 bcc2 bcc3 brc0 brc1
  clear hb
  obtain ⟨bhc0, bhc1, bhc2⟩ := held_at Kh.out
  obtain ⟨bcc0, bcc1, bcc2, bcc3⟩ := four Kc.out
  obtain ⟨brc0, brc1⟩ := twob Kr.out
  clear bhc0 bhc1 bhc2 bcc0 bcc1 bcc2 bcc3 brc0 brc1
  obtain ⟨bhc0, bhc1, bhc2⟩ := held_at Kh.out
  obtain ⟨bcc0, bcc1, bcc2, bcc3⟩ := four Kc.out
  obtain ⟨brc0, brc1⟩ := twob Kr.out
  have fzr := fun q => Kr.out.frozen q
  replace Kr := Lib.hid (show Blk (w2.setCell ⟨G + 1 + 1, 0, none⟩ (.int .i64 0)) (G + 1 + 1) 46 #[.int .i64 0, .int .i64 0] from Kr.out.set_ 0 (.int .i64 0))
  replace B := Lib.hid (show Below w.heap.size w (w2.setCell ⟨G + 1 + 1, 0, none⟩ (.int .i64 0)) from B.out.setCell (p := ⟨G + 1 + 1, 0, none⟩) (show w.heap.size ≤ G + 1 + 1 by have := HG.out; omega) (.int .i64 0))
  replace Kr := Lib.hid (show Blk ((w2.setCell ⟨G + 1 + 1, 0, none⟩ (.int .i64 0)).setCell ⟨G + 1 + 1, 1, none⟩ (.int .i64 0)) (G + 1 + 1) 46 #[.int .i64 0, .int .i64 0] from Kr.out.set_ 1 (.int .i64 0))
  replace B := Lib.hid (show Below w.heap.size w ((w2.setCell ⟨G + 1 + 1, 0, none⟩ (.int .i64 0)).setCell ⟨G + 1 + 1, 1, none⟩ (.int .i64 0)) from B.out.setCell (p := ⟨G + 1 + 1, 1, none⟩) (show w.heap.size ≤ G + 1 + 1 by have := HG.out; omega) (.int .i64 0))
  go_wp2
  generalize hw : ((w2.setCell ⟨G + 1 + 1, 0, none⟩ (.int .i64 0)).setCell ⟨G + 1 + 1, 1, none⟩ (.int .i64 0)) = w3 at Kr  B ⊢
  clear bhc0 bhc1 bhc2 bcc0 bcc1 bcc2 bcc3 brc0 brc1 fzr
  clear hw
  obtain ⟨d0, d1⟩ := twob Kr.out
  refine bodyPost_ret (by simp [results, Tryz.results11, go_sem, d0, d1]; try rfl) rfl ?_
  exact ⟨rfl, B.out⟩
set_option maxRecDepth 100000 in
set_option maxHeartbeats 4000000 in
theorem rworth_0 (st he ls le lu lr : Int) (D : List Nat) (cl clo chi cd x : Int) (w : World) (hD : D.length = 16) (h1 : HeldOk st he lu) (h2 : OkClk cl clo chi cd) (h3 : cl ≤ x ∧ x ≤ 2199023255552) (h4 : ¬ lu = 0) :
    Calls Tryz.prog 11 #[.agg (heldC st he ls le lu lr D), clk cl clo chi cd, .int .i64 x] w fun e w' => e = .returned (.agg #[.int .i64 (max 0 (untilF cl chi cd lu + 1 - x)), .int .i64 0]) ∧ Below w.heap.size w w' := by
  have C1 := Lib.hid (fun W => rholds_any st he ls le lu lr D W hD)
  rw [decide_eq_true h1] at C1
  have C2 := Lib.hid (fun W => checkref_yes cl clo chi cd W h2)
  have t1 : decide (x < cl) = false := decide_eq_false (by omega)
  have t2 : decide (2199023255552 < x) = false := decide_eq_false (by omega)
  have t3 : (lu == 0) = false := beq_eq_false_iff_ne.2 h4
  have C4 := Lib.hid (fun W => worthref_in cl clo chi cd x lu W h2 h3.1 h3.2)
  obtain ⟨R, hR⟩ : ∃ R, max 0 (untilF cl chi cd lu + 1 - x) = R := ⟨_, rfl⟩
  rw [hR] at C4 ⊢
  clear hR
  clear h1 h3 h4 h2
  have BGh := Lib.hid (show BigR 28 (heldC st he ls le lu lr D) from big_held hD)
  obtain ⟨Vh, hVh⟩ : ∃ C, heldC st he ls le lu lr D = C := ⟨_, rfl⟩
  obtain ⟨G, hG⟩ : ∃ G, w.heap.size = G := ⟨_, rfl⟩
  have HG := Lib.hid hG
  obtain ⟨w0, hw0, Kh, Kc, Kr, B⟩ : ∃ X, (((w.alloc (.cells Vh 28)).alloc (.cells #[.int .i64 cl, .int .i64 clo, .int .i64 chi, .int .i64 cd] 32)).alloc (.cells #[.int .i64 0, .int .i64 0] 46)) = X ∧ Hid (Blk X (G) 28 (heldC st he ls le lu lr D)) ∧ Hid (Blk X (G + 1) 32 #[.int .i64 cl, .int .i64 clo, .int .i64 chi, .int .i64 cd]) ∧ Hid (Blk X (G + 1 + 1) 46 #[.int .i64 0, .int .i64 0]) ∧ Hid (Below w.heap.size w X) := ⟨_, rfl, Lib.hid (by rw [hVh]; exact ((Blk.new' _ _ _ _ hG rfl).alloc _).alloc _), Lib.hid ((Blk.new' _ _ _ _ (by rw [World.size_alloc, hG]) rfl).alloc _), Lib.hid (Blk.new' _ _ _ _ (by rw [World.size_alloc, World.size_alloc, hG]) rfl), Lib.hid (by (repeat' (first | (with_reducible exact Below.refl _ _) | (with_reducible assumption) | (with_reducible refine Below.alloc ?_ ?_ _) | (with_reducible refine Below.drew ?_) | (with_reducible refine below_dn ?_) | (with_reducible refine Below.setCell ?_ ?_ _) | (with_reducible exact Nat.le_refl _) | omega | (simp only [World.size_alloc, World.size_setCell, World.size_drew]; omega) | (simp; omega) | (simp; done))))⟩
  try rw [hVh]
  have EVh := Lib.hid hVh
  clear hVh
  go_enter Tryz.func11, Tryz.ntmps11
  go_upto_region 1 with (fail)
  try rw [hG]
  try rw [hw0]
  clear hw0 hG
  obtain ⟨bhc0, bhc1, bhc2⟩ := held_at Kh.out
  obtain ⟨bcc0, bcc1, bcc2, bcc3⟩ := four Kc.out
  obtain ⟨brc0, brc1⟩ := twob Kr.out
  go_wp2_with (first | (with_reducible refine Hs.wpList_load_all rfl 28 _ rfl (G) rfl 28 (heldC st he ls le lu lr D) _ (Blk.hs Kh.out) Tryz.underlying28 BGh.out.info ?_))
  refine (C1.out _).mono ?_
  rintro e w1 ⟨rfl, hb⟩
  replace Kh := Lib.hid (Kh.out.below hb Kh.out.lt)
  replace Kc := Lib.hid (Kc.out.below hb Kc.out.lt)
  replace Kr := Lib.hid (Kr.out.below hb Kr.out.lt)
  replace B := Lib.hid (B.out.trans (hb.mono B.out.size))
  clear bhc0 bhc1 bhc2 bcc0 bcc1 bcc2 bcc3 brc0 brc1
  clear hb
  obtain ⟨bhc0, bhc1, bhc2⟩ := held_at Kh.out
  obtain ⟨bcc0, bcc1, bcc2, bcc3⟩ := four Kc.out
  obtain ⟨brc0, brc1⟩ := twob Kr.out
  go_wp2_with (fail)
  refine (C2.out _).mono ?_
  rintro e w2 ⟨rfl, hb⟩
  replace Kh := Lib.hid (Kh.out.below hb Kh.out.lt)
  replace Kc := Lib.hid (Kc.out.below hb Kc.out.lt)
  replace Kr := Lib.hid (Kr.out.below hb Kr.out.lt)
  replace B := Lib.hid (B.out.trans (hb.mono B.out.size))
  clear bhc0 bhc1 bhc2 bcc0 bcc1 bcc2 bcc3 brc0 brc1
  clear hb
  obtain ⟨bhc0, bhc1, bhc2⟩ := held_at Kh.out
  obtain ⟨bcc0, bcc1, bcc2, bcc3⟩ := four Kc.out
  obtain ⟨brc0, brc1⟩ := twob Kr.out
  go_wp2_with (fail)
  refine (C4.out _).mono ?_
  rintro e w3 ⟨rfl, hb⟩
  replace Kh := Lib.hid (Kh.out.below hb Kh.out.lt)
  replace Kc := Lib.hid (Kc.out.below hb Kc.out.lt)
  replace Kr := Lib.hid (Kr.out.below hb Kr.out.lt)
  replace B := Lib.hid (B.out.trans (hb.mono B.out.size))
  clear bhc0 bhc1 bhc2 bcc0 bcc1 bcc2 bcc3 brc0 brc1
  clear hb
  obtain ⟨bhc0, bhc1, bhc2⟩ := held_at Kh.out
  obtain ⟨bcc0, bcc1, bcc2, bcc3⟩ := four Kc.out
  obtain ⟨brc0, brc1⟩ := twob Kr.out
  clear bhc0 bhc1 bhc2 bcc0 bcc1 bcc2 bcc3 brc0 brc1
  obtain ⟨bhc0, bhc1, bhc2⟩ := held_at Kh.out
  obtain ⟨bcc0, bcc1, bcc2, bcc3⟩ := four Kc.out
  obtain ⟨brc0, brc1⟩ := twob Kr.out
  have fzr := fun q => Kr.out.frozen q
  replace Kr := Lib.hid (show Blk (w3.setCell ⟨G + 1 + 1, 0, none⟩ (.int .i64 R)) (G + 1 + 1) 46 #[.int .i64 R, .int .i64 0] from Kr.out.set_ 0 (.int .i64 R))
  replace B := Lib.hid (show Below w.heap.size w (w3.setCell ⟨G + 1 + 1, 0, none⟩ (.int .i64 R)) from B.out.setCell (p := ⟨G + 1 + 1, 0, none⟩) (show w.heap.size ≤ G + 1 + 1 by have := HG.out; omega) (.int .i64 R))
  replace Kr := Lib.hid (show Blk ((w3.setCell ⟨G + 1 + 1, 0, none⟩ (.int .i64 R)).setCell ⟨G + 1 + 1, 1, none⟩ (.int .i64 0)) (G + 1 + 1) 46 #[.int .i64 R, .int .i64 0] from Kr.out.set_ 1 (.int .i64 0))
  replace B := Lib.hid (show Below w.heap.size w ((w3.setCell ⟨G + 1 + 1, 0, none⟩ (.int .i64 R)).setCell ⟨G + 1 + 1, 1, none⟩ (.int .i64 0)) from B.out.setCell (p := ⟨G + 1 + 1, 1, none⟩) (show w.heap.size ≤ G + 1 + 1 by have := HG.out; omega) (.int .i64 0))
  go_wp2
  generalize hw : ((w3.setCell ⟨G + 1 + 1, 0, none⟩ (.int .i64 R)).setCell ⟨G + 1 + 1, 1, none⟩ (.int .i64 0)) = w4 at Kr  B ⊢
  clear bhc0 bhc1 bhc2 bcc0 bcc1 bcc2 bcc3 brc0 brc1 fzr
  clear hw
  obtain ⟨d0, d1⟩ := twob Kr.out
  refine bodyPost_ret (by simp [results, Tryz.results11, go_sem, d0, d1]; try rfl) rfl ?_
  exact ⟨rfl, B.out⟩
end Le
end Go.Proofs.YteblnmhaohbkkaaGreatDoor
