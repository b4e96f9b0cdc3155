/- Contracts: Grant of the specification. -/
import Derived.Test.YteblnmhaohbkkaaDoorRLeRa
import Derived.Test.YteblnmhaohbkkaaDoorRLeG
import Derived.Test.YteblnmhaohbkkaaDoorRLeO
import Derived.Test.YteblnmhaohbkkaaDoorRSRT
namespace Go.Proofs.YteblnmhaohbkkaaDoor
set_option linter.unusedVariables false
set_option linter.unusedSimpArgs false
namespace Le
open Go.RowKit Go.Sort
abbrev grantedE (e : Int) : Array Value := #[.int .i64 0, .int .i64 0, .slice none 0 0, .int .i64 0, .int .i64 0, .int .i64 0, .int .i64 0, .int .u8 0, .int .u8 0, .int .u8 0, .int .u8 0, .int .u8 0, .int .u8 0, .int .u8 0, .int .u8 0, .int .u8 0, .int .u8 0, .int .u8 0, .int .u8 0, .int .u8 0, .int .u8 0, .int .u8 0, .int .u8 0, .int .i64 e]
def grantedC (la mo : Int) (a : Option Addr) (n c : Nat) (s e u r : Int) (D : List Nat) : Array Value := (([.int .i64 la, .int .i64 mo, .slice a n c] : List Value) ++ leaseL s e u r D ++ ([.int .i64 0] : List Value)).toArray
theorem big_grantedE (e : Int) : BigR 52 (grantedE e) := ⟨by kernel_rfl, by kernel_rfl⟩
theorem big_grantedC (la mo : Int) (a : Option Addr) (n c : Nat) (s e u r : Int) {D : List Nat} (hD : D.length = 16) : BigR 52 (grantedC la mo a n c s e u r D) := by
  obtain ⟨d0, d1, d2, d3, d4, d5, d6, d7, d8, d9, d10, d11, d12, d13, d14, d15, rfl⟩ := list16 hD
  exact ⟨by kernel_rfl, by kernel_rfl⟩
theorem build_granted (la mo : Int) (a : Option Addr) (n c : Nat) (s e u r : Int) {D : List Nat} (hD : D.length = 16) (W : World) : (Instr.build 52 #[(0, .agg #[.int .i64 la, .int .i64 mo, .slice a n c]), (1, .agg (leaseC s e u r D))]).run Tryd.prog W = .ok (.agg (grantedC la mo a n c s e u r D)) W := by
  obtain ⟨d0, d1, d2, d3, d4, d5, d6, d7, d8, d9, d10, d11, d12, d13, d14, d15, rfl⟩ := list16 hD
  kernel_rfl
theorem wpList_build_run {P : Program} {ops : Array Oper} {rest : List Oper} {op : Oper} {a : Act} {w : World} {Q : Exit → Act → World → Prop} (hg : op.guard = none) (ty : TypeId) (parts : Array (Nat × Operand)) (ho : op.op = .build ty parts) (vals : Array (Nat × Value)) (hv : (parts.map fun (i, x) => (i, a.eval x)) = vals) (C : Array Value)
    (hr : (Instr.build ty vals).run P w = .ok (.agg C) w) (h : wpList P ops Q rest (a.put op.dst (.agg C)) w) : wpList P ops Q (op :: rest) a w :=
  wpList_plain hg fun K hK => by
    subst hv
    unfold Oper.wp execOp
    simp only [ho, Sem.run_bind, hr, Result.andThen_ok]
    exact hK _ _ h
theorem exec_build {P : Program} {op : Oper} {a : Act} {w : World} (ty : TypeId) (parts : Array (Nat × Operand)) (ho : op.op = .build ty parts) (vals : Array (Nat × Value)) (hv : (parts.map fun (i, x) => (i, a.eval x)) = vals) (C : Array Value)
    (hr : (Instr.build ty vals).run P w = .ok (.agg C) w) : (execOp a.eval op).run P w = .ok (.value (.agg C)) w := by
  subst hv
  unfold execOp
  simp only [ho, Sem.run_bind, hr, Result.andThen_ok]
  rfl
theorem rvalid_any_key (x : Rw) (w : World) : Calls Tryd.prog 44 #[.agg (encR x).toArray] w fun e w' => e = .returned (.bool (keyB x)) ∧ Below w.heap.size w w' := Go.Proofs.YteblnmhaohbkkaaDoor.rvalid_any x w
set_option maxRecDepth 100000 in
set_option maxHeartbeats 4000000 in
theorem rgrant_bad (la mo : Int) (a : Option Addr) (c : Nat) (l : List Gr) (k1 k2 : Int) (k3 : ByteArray) (k4 k5 n lo hi len : Int) (w : World) (hp : GrA w a l) (hm : l.length ≤ 10000) (bad : validB la mo l = false) :
    Calls Tryd.prog 17 #[.agg #[.int .i64 la, .int .i64 mo, .slice a l.length c], .agg #[.int .i64 k1, .int .i64 k2, .string k3, .int .i64 k4, .int .i64 k5], .int .i64 n, per lo hi, .int .i64 len] w fun e w' => e = .returned (.agg (grantedE 1)) ∧ Below w.heap.size w w' := by
  have HP := Lib.hid hp
  have VA := Lib.hid (fun (X : World) (h : GrA X a l) => rvalid_any la mo a c l X h (by omega))
  rw [bad] at VA
  obtain ⟨N, hN⟩ : ∃ N, l.length = N := ⟨_, rfl⟩
  have HE := Lib.hid hN
  simp only [hN] at VA
  rw [hN]
  clear hN hp hm bad
  obtain ⟨G, hG⟩ : ∃ G, w.heap.size = G := ⟨_, rfl⟩
  have HG := Lib.hid hG
  have BGr := Lib.hid (show BigR 52 ((grantedE 0)) from big_grantedE 0)
  obtain ⟨w0, hw0, Kg, Kk, Kp, Kr, B⟩ : ∃ X, ((((w.alloc (.cells #[.int .i64 la, .int .i64 mo, .slice a N c] 24)).alloc (.cells #[.int .i64 k1, .int .i64 k2, .string k3, .int .i64 k4, .int .i64 k5] 26)).alloc (.cells #[.int .i64 lo, .int .i64 hi] 28)).alloc (.cells #[.int .i64 0, .int .i64 0, .slice none 0 0, .int .i64 0, .int .i64 0, .int .i64 0, .int .i64 0, .int .u8 0, .int .u8 0, .int .u8 0, .int .u8 0, .int .u8 0, .int .u8 0, .int .u8 0, .int .u8 0, .int .u8 0, .int .u8 0, .int .u8 0, .int .u8 0, .int .u8 0, .int .u8 0, .int .u8 0, .int .u8 0, .int .i64 0] 52)) = X ∧ Hid (Blk X (G) 24 #[.int .i64 la, .int .i64 mo, .slice a N c]) ∧ Hid (Blk X (G + 1) 26 #[.int .i64 k1, .int .i64 k2, .string k3, .int .i64 k4, .int .i64 k5]) ∧ Hid (Blk X (G + 1 + 1) 28 #[.int .i64 lo, .int .i64 hi]) ∧ Hid (Blk X (G + 1 + 1 + 1) 52 ((grantedE 0))) ∧ Hid (Below w.heap.size w X) := ⟨_, rfl, Lib.hid ((((Blk.new' _ _ _ _ hG rfl).alloc _).alloc _).alloc _), Lib.hid (((Blk.new' _ _ _ _ (by rw [World.size_alloc, hG]) rfl).alloc _).alloc _), Lib.hid ((Blk.new' _ _ _ _ (by rw [World.size_alloc, World.size_alloc, hG]) rfl).alloc _), Lib.hid (Blk.new' _ _ _ _ (by rw [World.size_alloc, World.size_alloc, World.size_alloc, hG]) rfl), Lib.hid (by (repeat' (first | (with_reducible exact Below.refl _ _) | (with_reducible assumption) | (with_reducible refine Below.alloc ?_ ?_ _) | (with_reducible refine Below.drew ?_) | (with_reducible refine below_dn ?_) | (with_reducible refine Below.setCell ?_ ?_ _) | (with_reducible exact Nat.le_refl _) | omega | (simp only [World.size_alloc, World.size_setCell, World.size_drew]; omega) | (simp; omega) | (simp; done))))⟩
  go_enter Tryd.func17, Tryd.ntmps17
  go_upto_region 1 with (fail)
  try rw [hG]
  try rw [hw0]
  clear hw0 hG
  obtain ⟨bgc0, bgc1, bgc2⟩ := three Kg.out
  obtain ⟨bkc0, bkc1, bkc2, bkc3, bkc4⟩ := five Kk.out
  obtain ⟨bpc0, bpc1⟩ := twob Kp.out
  go_wp2_with (fail)
  refine (VA.out _ (HP.out.mono B.out)).mono ?_
  rintro e w1 ⟨rfl, hb⟩
  replace Kg := Lib.hid (Kg.out.below hb Kg.out.lt)
  replace Kk := Lib.hid (Kk.out.below hb Kk.out.lt)
  replace Kp := Lib.hid (Kp.out.below hb Kp.out.lt)
  replace Kr := Lib.hid (Kr.out.below hb Kr.out.lt)
  replace B := Lib.hid (B.out.trans (hb.mono B.out.size))
  clear bgc0 bgc1 bgc2 bkc0 bkc1 bkc2 bkc3 bkc4 bpc0 bpc1
  clear hb
  obtain ⟨bgc0, bgc1, bgc2⟩ := three Kg.out
  obtain ⟨bkc0, bkc1, bkc2, bkc3, bkc4⟩ := five Kk.out
  obtain ⟨bpc0, bpc1⟩ := twob Kp.out
  go_wp2_with (first | (with_reducible refine Hs.wpList_store_blk rfl 52 _ _ rfl (G + 1 + 1 + 1) 52 _ (grantedE 1) rfl rfl (Blk.hs Kr.out) (big_grantedE 1).info ((big_grantedE 0).same (big_grantedE 1)) (big_grantedE 1).one rfl ?_))
  have BZ := below_setRow B.out (show w.heap.size ≤ G + 1 + 1 + 1 by have := HG.out; omega) (grantedE 1)
  refine bodyPost_ret (v := .agg (grantedE 1)) (results_cell_row rfl _ _ _ 52 _ (0, 0) _ rfl (Kr.out.row_ _) Tryd.underlying52 rfl (big_grantedE 1).info) rfl ?_
  exact ⟨rfl, BZ⟩
set_option maxRecDepth 100000 in
set_option maxHeartbeats 4000000 in
theorem rgrant_site (la mo : Int) (a : Option Addr) (c : Nat) (l : List Gr) (k1 k2 : Int) (k3 : ByteArray) (k4 k5 n lo hi len : Int) (w : World) (hp : GrA w a l) (hm : l.length ≤ 10000) (ok : GsOk la mo l) (hs : ¬ (0 ≤ n ∧ n < 64)) :
    Calls Tryd.prog 17 #[.agg #[.int .i64 la, .int .i64 mo, .slice a l.length c], .agg #[.int .i64 k1, .int .i64 k2, .string k3, .int .i64 k4, .int .i64 k5], .int .i64 n, per lo hi, .int .i64 len] w fun e w' => e = .returned (.agg (grantedE 1)) ∧ Below w.heap.size w w' := by
  have HP := Lib.hid hp
  have VA := Lib.hid (fun (X : World) (h : GrA X a l) => rvalid_any la mo a c l X h (by omega))
  have ev : validB la mo l = true := decide_eq_true ok
  rw [ev] at VA
  have SI := Lib.hid (fun (X : World) => rsite_no hs X)
  obtain ⟨N, hN⟩ : ∃ N, l.length = N := ⟨_, rfl⟩
  have HE := Lib.hid hN
  simp only [hN] at VA
  rw [hN]
  clear hN hp hm ev ok hs
  obtain ⟨G, hG⟩ : ∃ G, w.heap.size = G := ⟨_, rfl⟩
  have HG := Lib.hid hG
  have BGr := Lib.hid (show BigR 52 ((grantedE 0)) from big_grantedE 0)
  obtain ⟨w0, hw0, Kg, Kk, Kp, Kr, B⟩ : ∃ X, ((((w.alloc (.cells #[.int .i64 la, .int .i64 mo, .slice a N c] 24)).alloc (.cells #[.int .i64 k1, .int .i64 k2, .string k3, .int .i64 k4, .int .i64 k5] 26)).alloc (.cells #[.int .i64 lo, .int .i64 hi] 28)).alloc (.cells #[.int .i64 0, .int .i64 0, .slice none 0 0, .int .i64 0, .int .i64 0, .int .i64 0, .int .i64 0, .int .u8 0, .int .u8 0, .int .u8 0, .int .u8 0, .int .u8 0, .int .u8 0, .int .u8 0, .int .u8 0, .int .u8 0, .int .u8 0, .int .u8 0, .int .u8 0, .int .u8 0, .int .u8 0, .int .u8 0, .int .u8 0, .int .i64 0] 52)) = X ∧ Hid (Blk X (G) 24 #[.int .i64 la, .int .i64 mo, .slice a N c]) ∧ Hid (Blk X (G + 1) 26 #[.int .i64 k1, .int .i64 k2, .string k3, .int .i64 k4, .int .i64 k5]) ∧ Hid (Blk X (G + 1 + 1) 28 #[.int .i64 lo, .int .i64 hi]) ∧ Hid (Blk X (G + 1 + 1 + 1) 52 ((grantedE 0))) ∧ Hid (Below w.heap.size w X) := ⟨_, rfl, Lib.hid ((((Blk.new' _ _ _ _ hG rfl).alloc _).alloc _).alloc _), Lib.hid (((Blk.new' _ _ _ _ (by rw [World.size_alloc, hG]) rfl).alloc _).alloc _), Lib.hid ((Blk.new' _ _ _ _ (by rw [World.size_alloc, World.size_alloc, hG]) rfl).alloc _), Lib.hid (Blk.new' _ _ _ _ (by rw [World.size_alloc, World.size_alloc, World.size_alloc, hG]) rfl), Lib.hid (by (repeat' (first | (with_reducible exact Below.refl _ _) | (with_reducible assumption) | (with_reducible refine Below.alloc ?_ ?_ _) | (with_reducible refine Below.drew ?_) | (with_reducible refine below_dn ?_) | (with_reducible refine Below.setCell ?_ ?_ _) | (with_reducible exact Nat.le_refl _) | omega | (simp only [World.size_alloc, World.size_setCell, World.size_drew]; omega) | (simp; omega) | (simp; done))))⟩
  go_enter Tryd.func17, Tryd.ntmps17
  go_upto_region 1 with (fail)
  try rw [hG]
  try rw [hw0]
  clear hw0 hG
  obtain ⟨bgc0, bgc1, bgc2⟩ := three Kg.out
  obtain ⟨bkc0, bkc1, bkc2, bkc3, bkc4⟩ := five Kk.out
  obtain ⟨bpc0, bpc1⟩ := twob Kp.out
  go_wp2_with (fail)
  refine (VA.out _ (HP.out.mono B.out)).mono ?_
  rintro e w1 ⟨rfl, hb⟩
  replace Kg := Lib.hid (Kg.out.below hb Kg.out.lt)
  replace Kk := Lib.hid (Kk.out.below hb Kk.out.lt)
  replace Kp := Lib.hid (Kp.out.below hb Kp.out.lt)
  replace Kr := Lib.hid (Kr.out.below hb Kr.out.lt)
  replace B := Lib.hid (B.out.trans (hb.mono B.out.size))
  clear bgc0 bgc1 bgc2 bkc0 bkc1 bkc2 bkc3 bkc4 bpc0 bpc1
  clear hb
  obtain ⟨bgc0, bgc1, bgc2⟩ := three Kg.out
  obtain ⟨bkc0, bkc1, bkc2, bkc3, bkc4⟩ := five Kk.out
  obtain ⟨bpc0, bpc1⟩ := twob Kp.out
  go_wp2_with (fail)
  refine (SI.out _).mono ?_
  rintro e w2 ⟨rfl, hb⟩
  replace Kg := Lib.hid (Kg.out.below hb Kg.out.lt)
  replace Kk := Lib.hid (Kk.out.below hb Kk.out.lt)
  replace Kp := Lib.hid (Kp.out.below hb Kp.out.lt)
  replace Kr := Lib.hid (Kr.out.below hb Kr.out.lt)
  replace B := Lib.hid (B.out.trans (hb.mono B.out.size))
  clear bgc0 bgc1 bgc2 bkc0 bkc1 bkc2 bkc3 bkc4 bpc0 bpc1
  clear hb
  obtain ⟨bgc0, bgc1, bgc2⟩ := three Kg.out
  obtain ⟨bkc0, bkc1, bkc2, bkc3, bkc4⟩ := five Kk.out
  obtain ⟨bpc0, bpc1⟩ := twob Kp.out
  go_wp2_with (first | (with_reducible refine Hs.wpList_store_blk rfl 52 _ _ rfl (G + 1 + 1 + 1) 52 _ (grantedE 1) rfl rfl (Blk.hs Kr.out) (big_grantedE 1).info ((big_grantedE 0).same (big_grantedE 1)) (big_grantedE 1).one rfl ?_))
  have BZ := below_setRow B.out (show w.heap.size ≤ G + 1 + 1 + 1 by have := HG.out; omega) (grantedE 1)
  refine bodyPost_ret (v := .agg (grantedE 1)) (results_cell_row rfl _ _ _ 52 _ (0, 0) _ rfl (Kr.out.row_ _) Tryd.underlying52 rfl (big_grantedE 1).info) rfl ?_
  exact ⟨rfl, BZ⟩
set_option maxRecDepth 100000 in
set_option maxHeartbeats 4000000 in
theorem rgrant_per (la mo : Int) (a : Option Addr) (c : Nat) (l : List Gr) (k1 k2 : Int) (k3 : ByteArray) (k4 k5 n lo hi len : Int) (w : World) (hp : GrA w a l) (hm : l.length ≤ 10000) (ok : GsOk la mo l) (hs : 0 ≤ n ∧ n < 64) (hq : perB lo hi = false) :
    Calls Tryd.prog 17 #[.agg #[.int .i64 la, .int .i64 mo, .slice a l.length c], .agg #[.int .i64 k1, .int .i64 k2, .string k3, .int .i64 k4, .int .i64 k5], .int .i64 n, per lo hi, .int .i64 len] w fun e w' => e = .returned (.agg (grantedE 1)) ∧ Below w.heap.size w w' := by
  have HP := Lib.hid hp
  have VA := Lib.hid (fun (X : World) (h : GrA X a l) => rvalid_any la mo a c l X h (by omega))
  have ev : validB la mo l = true := decide_eq_true ok
  rw [ev] at VA
  have SI := Lib.hid (fun (X : World) => rsite_yes hs X)
  have PE := Lib.hid (fun (X : World) => period_ref lo hi X)
  rw [hq] at PE
  obtain ⟨N, hN⟩ : ∃ N, l.length = N := ⟨_, rfl⟩
  have HE := Lib.hid hN
  simp only [hN] at VA
  rw [hN]
  clear hN hp hm ev ok hs hq
  obtain ⟨G, hG⟩ : ∃ G, w.heap.size = G := ⟨_, rfl⟩
  have HG := Lib.hid hG
  have BGr := Lib.hid (show BigR 52 ((grantedE 0)) from big_grantedE 0)
  obtain ⟨w0, hw0, Kg, Kk, Kp, Kr, B⟩ : ∃ X, ((((w.alloc (.cells #[.int .i64 la, .int .i64 mo, .slice a N c] 24)).alloc (.cells #[.int .i64 k1, .int .i64 k2, .string k3, .int .i64 k4, .int .i64 k5] 26)).alloc (.cells #[.int .i64 lo, .int .i64 hi] 28)).alloc (.cells #[.int .i64 0, .int .i64 0, .slice none 0 0, .int .i64 0, .int .i64 0, .int .i64 0, .int .i64 0, .int .u8 0, .int .u8 0, .int .u8 0, .int .u8 0, .int .u8 0, .int .u8 0, .int .u8 0, .int .u8 0, .int .u8 0, .int .u8 0, .int .u8 0, .int .u8 0, .int .u8 0, .int .u8 0, .int .u8 0, .int .u8 0, .int .i64 0] 52)) = X ∧ Hid (Blk X (G) 24 #[.int .i64 la, .int .i64 mo, .slice a N c]) ∧ Hid (Blk X (G + 1) 26 #[.int .i64 k1, .int .i64 k2, .string k3, .int .i64 k4, .int .i64 k5]) ∧ Hid (Blk X (G + 1 + 1) 28 #[.int .i64 lo, .int .i64 hi]) ∧ Hid (Blk X (G + 1 + 1 + 1) 52 ((grantedE 0))) ∧ Hid (Below w.heap.size w X) := ⟨_, rfl, Lib.hid ((((Blk.new' _ _ _ _ hG rfl).alloc _).alloc _).alloc _), Lib.hid (((Blk.new' _ _ _ _ (by rw [World.size_alloc, hG]) rfl).alloc _).alloc _), Lib.hid ((Blk.new' _ _ _ _ (by rw [World.size_alloc, World.size_alloc, hG]) rfl).alloc _), Lib.hid (Blk.new' _ _ _ _ (by rw [World.size_alloc, World.size_alloc, World.size_alloc, hG]) rfl), Lib.hid (by (repeat' (first | (with_reducible exact Below.refl _ _) | (with_reducible assumption) | (with_reducible refine Below.alloc ?_ ?_ _) | (with_reducible refine Below.drew ?_) | (with_reducible refine below_dn ?_) | (with_reducible refine Below.setCell ?_ ?_ _) | (with_reducible exact Nat.le_refl _) | omega | (simp only [World.size_alloc, World.size_setCell, World.size_drew]; omega) | (simp; omega) | (simp; done))))⟩
  go_enter Tryd.func17, Tryd.ntmps17
  go_upto_region 1 with (fail)
  try rw [hG]
  try rw [hw0]
  clear hw0 hG
  obtain ⟨bgc0, bgc1, bgc2⟩ := three Kg.out
  obtain ⟨bkc0, bkc1, bkc2, bkc3, bkc4⟩ := five Kk.out
  obtain ⟨bpc0, bpc1⟩ := twob Kp.out
  go_wp2_with (fail)
  refine (VA.out _ (HP.out.mono B.out)).mono ?_
  rintro e w1 ⟨rfl, hb⟩
  replace Kg := Lib.hid (Kg.out.below hb Kg.out.lt)
  replace Kk := Lib.hid (Kk.out.below hb Kk.out.lt)
  replace Kp := Lib.hid (Kp.out.below hb Kp.out.lt)
  replace Kr := Lib.hid (Kr.out.below hb Kr.out.lt)
  replace B := Lib.hid (B.out.trans (hb.mono B.out.size))
  clear bgc0 bgc1 bgc2 bkc0 bkc1 bkc2 bkc3 bkc4 bpc0 bpc1
  clear hb
  obtain ⟨bgc0, bgc1, bgc2⟩ := three Kg.out
  obtain ⟨bkc0, bkc1, bkc2, bkc3, bkc4⟩ := five Kk.out
  obtain ⟨bpc0, bpc1⟩ := twob Kp.out
  go_wp2_with (fail)
  refine (SI.out _).mono ?_
  rintro e w2 ⟨rfl, hb⟩
  replace Kg := Lib.hid (Kg.out.below hb Kg.out.lt)
  replace Kk := Lib.hid (Kk.out.below hb Kk.out.lt)
  replace Kp := Lib.hid (Kp.out.below hb Kp.out.lt)
  replace Kr := Lib.hid (Kr.out.below hb Kr.out.lt)
  replace B := Lib.hid (B.out.trans (hb.mono B.out.size))
  clear bgc0 bgc1 bgc2 bkc0 bkc1 bkc2 bkc3 bkc4 bpc0 bpc1
  clear hb
  obtain ⟨bgc0, bgc1, bgc2⟩ := three Kg.out
  obtain ⟨bkc0, bkc1, bkc2, bkc3, bkc4⟩ := five Kk.out
  obtain ⟨bpc0, bpc1⟩ := twob Kp.out
  go_wp2_with (fail)
  refine (PE.out _).mono ?_
  rintro e w3 ⟨rfl, hb⟩
  replace Kg := Lib.hid (Kg.out.below hb Kg.out.lt)
  replace Kk := Lib.hid (Kk.out.below hb Kk.out.lt)
  replace Kp := Lib.hid (Kp.out.below hb Kp.out.lt)
  replace Kr := Lib.hid (Kr.out.below hb Kr.out.lt)
  replace B := Lib.hid (B.out.trans (hb.mono B.out.size))
  clear bgc0 bgc1 bgc2 bkc0 bkc1 bkc2 bkc3 bkc4 bpc0 bpc1
  clear hb
  obtain ⟨bgc0, bgc1, bgc2⟩ := three Kg.out
  obtain ⟨bkc0, bkc1, bkc2, bkc3, bkc4⟩ := five Kk.out
  obtain ⟨bpc0, bpc1⟩ := twob Kp.out
  go_wp2_with (first | (with_reducible refine Hs.wpList_store_blk rfl 52 _ _ rfl (G + 1 + 1 + 1) 52 _ (grantedE 1) rfl rfl (Blk.hs Kr.out) (big_grantedE 1).info ((big_grantedE 0).same (big_grantedE 1)) (big_grantedE 1).one rfl ?_))
  have BZ := below_setRow B.out (show w.heap.size ≤ G + 1 + 1 + 1 by have := HG.out; omega) (grantedE 1)
  refine bodyPost_ret (v := .agg (grantedE 1)) (results_cell_row rfl _ _ _ 52 _ (0, 0) _ rfl (Kr.out.row_ _) Tryd.underlying52 rfl (big_grantedE 1).info) rfl ?_
  exact ⟨rfl, BZ⟩
set_option maxRecDepth 100000 in
set_option maxHeartbeats 4000000 in
theorem rgrant_one (la mo : Int) (a : Option Addr) (c : Nat) (l : List Gr) (k1 k2 : Int) (k3 : ByteArray) (k4 k5 n lo hi len : Int) (w : World) (hp : GrA w a l) (hm : l.length ≤ 10000) (ok : GsOk la mo l) (hs : 0 ≤ n ∧ n < 64) (hq : perB lo hi = true) (h1 : len < 1) :
    Calls Tryd.prog 17 #[.agg #[.int .i64 la, .int .i64 mo, .slice a l.length c], .agg #[.int .i64 k1, .int .i64 k2, .string k3, .int .i64 k4, .int .i64 k5], .int .i64 n, per lo hi, .int .i64 len] w fun e w' => e = .returned (.agg (grantedE 1)) ∧ Below w.heap.size w w' := by
  have HP := Lib.hid hp
  have VA := Lib.hid (fun (X : World) (h : GrA X a l) => rvalid_any la mo a c l X h (by omega))
  have ev : validB la mo l = true := decide_eq_true ok
  rw [ev] at VA
  have SI := Lib.hid (fun (X : World) => rsite_yes hs X)
  have PE := Lib.hid (fun (X : World) => period_ref lo hi X)
  rw [hq] at PE
  have t1 : decide (len < 1) = true := decide_eq_true h1
  obtain ⟨N, hN⟩ : ∃ N, l.length = N := ⟨_, rfl⟩
  have HE := Lib.hid hN
  simp only [hN] at VA
  rw [hN]
  clear hN hp hm ev ok hs hq h1
  obtain ⟨G, hG⟩ : ∃ G, w.heap.size = G := ⟨_, rfl⟩
  have HG := Lib.hid hG
  have BGr := Lib.hid (show BigR 52 ((grantedE 0)) from big_grantedE 0)
  obtain ⟨w0, hw0, Kg, Kk, Kp, Kr, B⟩ : ∃ X, ((((w.alloc (.cells #[.int .i64 la, .int .i64 mo, .slice a N c] 24)).alloc (.cells #[.int .i64 k1, .int .i64 k2, .string k3, .int .i64 k4, .int .i64 k5] 26)).alloc (.cells #[.int .i64 lo, .int .i64 hi] 28)).alloc (.cells #[.int .i64 0, .int .i64 0, .slice none 0 0, .int .i64 0, .int .i64 0, .int .i64 0, .int .i64 0, .int .u8 0, .int .u8 0, .int .u8 0, .int .u8 0, .int .u8 0, .int .u8 0, .int .u8 0, .int .u8 0, .int .u8 0, .int .u8 0, .int .u8 0, .int .u8 0, .int .u8 0, .int .u8 0, .int .u8 0, .int .u8 0, .int .i64 0] 52)) = X ∧ Hid (Blk X (G) 24 #[.int .i64 la, .int .i64 mo, .slice a N c]) ∧ Hid (Blk X (G + 1) 26 #[.int .i64 k1, .int .i64 k2, .string k3, .int .i64 k4, .int .i64 k5]) ∧ Hid (Blk X (G + 1 + 1) 28 #[.int .i64 lo, .int .i64 hi]) ∧ Hid (Blk X (G + 1 + 1 + 1) 52 ((grantedE 0))) ∧ Hid (Below w.heap.size w X) := ⟨_, rfl, Lib.hid ((((Blk.new' _ _ _ _ hG rfl).alloc _).alloc _).alloc _), Lib.hid (((Blk.new' _ _ _ _ (by rw [World.size_alloc, hG]) rfl).alloc _).alloc _), Lib.hid ((Blk.new' _ _ _ _ (by rw [World.size_alloc, World.size_alloc, hG]) rfl).alloc _), Lib.hid (Blk.new' _ _ _ _ (by rw [World.size_alloc, World.size_alloc, World.size_alloc, hG]) rfl), Lib.hid (by (repeat' (first | (with_reducible exact Below.refl _ _) | (with_reducible assumption) | (with_reducible refine Below.alloc ?_ ?_ _) | (with_reducible refine Below.drew ?_) | (with_reducible refine below_dn ?_) | (with_reducible refine Below.setCell ?_ ?_ _) | (with_reducible exact Nat.le_refl _) | omega | (simp only [World.size_alloc, World.size_setCell, World.size_drew]; omega) | (simp; omega) | (simp; done))))⟩
  go_enter Tryd.func17, Tryd.ntmps17
  go_upto_region 1 with (fail)
  try rw [hG]
  try rw [hw0]
  clear hw0 hG
  obtain ⟨bgc0, bgc1, bgc2⟩ := three Kg.out
  obtain ⟨bkc0, bkc1, bkc2, bkc3, bkc4⟩ := five Kk.out
  obtain ⟨bpc0, bpc1⟩ := twob Kp.out
  go_wp2_with (fail)
  refine (VA.out _ (HP.out.mono B.out)).mono ?_
  rintro e w1 ⟨rfl, hb⟩
  replace Kg := Lib.hid (Kg.out.below hb Kg.out.lt)
  replace Kk := Lib.hid (Kk.out.below hb Kk.out.lt)
  replace Kp := Lib.hid (Kp.out.below hb Kp.out.lt)
  replace Kr := Lib.hid (Kr.out.below hb Kr.out.lt)
  replace B := Lib.hid (B.out.trans (hb.mono B.out.size))
  clear bgc0 bgc1 bgc2 bkc0 bkc1 bkc2 bkc3 bkc4 bpc0 bpc1
  clear hb
  obtain ⟨bgc0, bgc1, bgc2⟩ := three Kg.out
  obtain ⟨bkc0, bkc1, bkc2, bkc3, bkc4⟩ := five Kk.out
  obtain ⟨bpc0, bpc1⟩ := twob Kp.out
  go_wp2_with (fail)
  refine (SI.out _).mono ?_
  rintro e w2 ⟨rfl, hb⟩
  replace Kg := Lib.hid (Kg.out.below hb Kg.out.lt)
  replace Kk := Lib.hid (Kk.out.below hb Kk.out.lt)
  replace Kp := Lib.hid (Kp.out.below hb Kp.out.lt)
  replace Kr := Lib.hid (Kr.out.below hb Kr.out.lt)
  replace B := Lib.hid (B.out.trans (hb.mono B.out.size))
  clear bgc0 bgc1 bgc2 bkc0 bkc1 bkc2 bkc3 bkc4 bpc0 bpc1
  clear hb
  obtain ⟨bgc0, bgc1, bgc2⟩ := three Kg.out
  obtain ⟨bkc0, bkc1, bkc2, bkc3, bkc4⟩ := five Kk.out
  obtain ⟨bpc0, bpc1⟩ := twob Kp.out
  go_wp2_with (fail)
  refine (PE.out _).mono ?_
  rintro e w3 ⟨rfl, hb⟩
  replace Kg := Lib.hid (Kg.out.below hb Kg.out.lt)
  replace Kk := Lib.hid (Kk.out.below hb Kk.out.lt)
  replace Kp := Lib.hid (Kp.out.below hb Kp.out.lt)
  replace Kr := Lib.hid (Kr.out.below hb Kr.out.lt)
  replace B := Lib.hid (B.out.trans (hb.mono B.out.size))
  clear bgc0 bgc1 bgc2 bkc0 bkc1 bkc2 bkc3 bkc4 bpc0 bpc1
  clear hb
  obtain ⟨bgc0, bgc1, bgc2⟩ := three Kg.out
  obtain ⟨bkc0, bkc1, bkc2, bkc3, bkc4⟩ := five Kk.out
  obtain ⟨bpc0, bpc1⟩ := twob Kp.out
  go_wp2_with (first | (with_reducible refine Hs.wpList_store_blk rfl 52 _ _ rfl (G + 1 + 1 + 1) 52 _ (grantedE 1) rfl rfl (Blk.hs Kr.out) (big_grantedE 1).info ((big_grantedE 0).same (big_grantedE 1)) (big_grantedE 1).one rfl ?_))
  have BZ := below_setRow B.out (show w.heap.size ≤ G + 1 + 1 + 1 by have := HG.out; omega) (grantedE 1)
  refine bodyPost_ret (v := .agg (grantedE 1)) (results_cell_row rfl _ _ _ 52 _ (0, 0) _ rfl (Kr.out.row_ _) Tryd.underlying52 rfl (big_grantedE 1).info) rfl ?_
  exact ⟨rfl, BZ⟩
set_option maxRecDepth 100000 in
set_option maxHeartbeats 4000000 in
theorem rgrant_mo (la mo : Int) (a : Option Addr) (c : Nat) (l : List Gr) (k1 k2 : Int) (k3 : ByteArray) (k4 k5 n lo hi len : Int) (w : World) (hp : GrA w a l) (hm : l.length ≤ 10000) (ok : GsOk la mo l) (hs : 0 ≤ n ∧ n < 64) (hq : perB lo hi = true) (h1 : ¬ len < 1) (h2 : mo < len) :
    Calls Tryd.prog 17 #[.agg #[.int .i64 la, .int .i64 mo, .slice a l.length c], .agg #[.int .i64 k1, .int .i64 k2, .string k3, .int .i64 k4, .int .i64 k5], .int .i64 n, per lo hi, .int .i64 len] w fun e w' => e = .returned (.agg (grantedE 1)) ∧ Below w.heap.size w w' := by
  have HP := Lib.hid hp
  have VA := Lib.hid (fun (X : World) (h : GrA X a l) => rvalid_any la mo a c l X h (by omega))
  have ev : validB la mo l = true := decide_eq_true ok
  rw [ev] at VA
  have SI := Lib.hid (fun (X : World) => rsite_yes hs X)
  have PE := Lib.hid (fun (X : World) => period_ref lo hi X)
  rw [hq] at PE
  have t1 : decide (len < 1) = false := decide_eq_false h1
  have t2 : decide (mo < len) = true := decide_eq_true h2
  obtain ⟨N, hN⟩ : ∃ N, l.length = N := ⟨_, rfl⟩
  have HE := Lib.hid hN
  simp only [hN] at VA
  rw [hN]
  clear hN hp hm ev ok hs hq h1 h2
  obtain ⟨G, hG⟩ : ∃ G, w.heap.size = G := ⟨_, rfl⟩
  have HG := Lib.hid hG
  have BGr := Lib.hid (show BigR 52 ((grantedE 0)) from big_grantedE 0)
  obtain ⟨w0, hw0, Kg, Kk, Kp, Kr, B⟩ : ∃ X, ((((w.alloc (.cells #[.int .i64 la, .int .i64 mo, .slice a N c] 24)).alloc (.cells #[.int .i64 k1, .int .i64 k2, .string k3, .int .i64 k4, .int .i64 k5] 26)).alloc (.cells #[.int .i64 lo, .int .i64 hi] 28)).alloc (.cells #[.int .i64 0, .int .i64 0, .slice none 0 0, .int .i64 0, .int .i64 0, .int .i64 0, .int .i64 0, .int .u8 0, .int .u8 0, .int .u8 0, .int .u8 0, .int .u8 0, .int .u8 0, .int .u8 0, .int .u8 0, .int .u8 0, .int .u8 0, .int .u8 0, .int .u8 0, .int .u8 0, .int .u8 0, .int .u8 0, .int .u8 0, .int .i64 0] 52)) = X ∧ Hid (Blk X (G) 24 #[.int .i64 la, .int .i64 mo, .slice a N c]) ∧ Hid (Blk X (G + 1) 26 #[.int .i64 k1, .int .i64 k2, .string k3, .int .i64 k4, .int .i64 k5]) ∧ Hid (Blk X (G + 1 + 1) 28 #[.int .i64 lo, .int .i64 hi]) ∧ Hid (Blk X (G + 1 + 1 + 1) 52 ((grantedE 0))) ∧ Hid (Below w.heap.size w X) := ⟨_, rfl, Lib.hid ((((Blk.new' _ _ _ _ hG rfl).alloc _).alloc _).alloc _), Lib.hid (((Blk.new' _ _ _ _ (by rw [World.size_alloc, hG]) rfl).alloc _).alloc _), Lib.hid ((Blk.new' _ _ _ _ (by rw [World.size_alloc, World.size_alloc, hG]) rfl).alloc _), Lib.hid (Blk.new' _ _ _ _ (by rw [World.size_alloc, World.size_alloc, World.size_alloc, hG]) rfl), Lib.hid (by (repeat' (first | (with_reducible exact Below.refl _ _) | (with_reducible assumption) | (with_reducible refine Below.alloc ?_ ?_ _) | (with_reducible refine Below.drew ?_) | (with_reducible refine below_dn ?_) | (with_reducible refine Below.setCell ?_ ?_ _) | (with_reducible exact Nat.le_refl _) | omega | (simp only [World.size_alloc, World.size_setCell, World.size_drew]; omega) | (simp; omega) | (simp; done))))⟩
  go_enter Tryd.func17, Tryd.ntmps17
  go_upto_region 1 with (fail)
  try rw [hG]
  try rw [hw0]
  clear hw0 hG
  obtain ⟨bgc0, bgc1, bgc2⟩ := three Kg.out
  obtain ⟨bkc0, bkc1, bkc2, bkc3, bkc4⟩ := five Kk.out
  obtain ⟨bpc0, bpc1⟩ := twob Kp.out
  go_wp2_with (fail)
  refine (VA.out _ (HP.out.mono B.out)).mono ?_
  rintro e w1 ⟨rfl, hb⟩
  replace Kg := Lib.hid (Kg.out.below hb Kg.out.lt)
  replace Kk := Lib.hid (Kk.out.below hb Kk.out.lt)
  replace Kp := Lib.hid (Kp.out.below hb Kp.out.lt)
  replace Kr := Lib.hid (Kr.out.below hb Kr.out.lt)
  replace B := Lib.hid (B.out.trans (hb.mono B.out.size))
  clear bgc0 bgc1 bgc2 bkc0 bkc1 bkc2 bkc3 bkc4 bpc0 bpc1
  clear hb
  obtain ⟨bgc0, bgc1, bgc2⟩ := three Kg.out
  obtain ⟨bkc0, bkc1, bkc2, bkc3, bkc4⟩ := five Kk.out
  obtain ⟨bpc0, bpc1⟩ := twob Kp.out
  go_wp2_with (fail)
  refine (SI.out _).mono ?_
  rintro e w2 ⟨rfl, hb⟩
  replace Kg := Lib.hid (Kg.out.below hb Kg.out.lt)
  replace Kk := Lib.hid (Kk.out.below hb Kk.out.lt)
  replace Kp := Lib.hid (Kp.out.below hb Kp.out.lt)
  replace Kr := Lib.hid (Kr.out.below hb Kr.out.lt)
  replace B := Lib.hid (B.out.trans (hb.mono B.out.size))
  clear bgc0 bgc1 bgc2 bkc0 bkc1 bkc2 bkc3 bkc4 bpc0 bpc1
  clear hb
  obtain ⟨bgc0, bgc1, bgc2⟩ := three Kg.out
  obtain ⟨bkc0, bkc1, bkc2, bkc3, bkc4⟩ := five Kk.out
  obtain ⟨bpc0, bpc1⟩ := twob Kp.out
  go_wp2_with (fail)
  refine (PE.out _).mono ?_
  rintro e w3 ⟨rfl, hb⟩
  replace Kg := Lib.hid (Kg.out.below hb Kg.out.lt)
  replace Kk := Lib.hid (Kk.out.below hb Kk.out.lt)
  replace Kp := Lib.hid (Kp.out.below hb Kp.out.lt)
  replace Kr := Lib.hid (Kr.out.below hb Kr.out.lt)
  replace B := Lib.hid (B.out.trans (hb.mono B.out.size))
  clear bgc0 bgc1 bgc2 bkc0 bkc1 bkc2 bkc3 bkc4 bpc0 bpc1
  clear hb
  obtain ⟨bgc0, bgc1, bgc2⟩ := three Kg.out
  obtain ⟨bkc0, bkc1, bkc2, bkc3, bkc4⟩ := five Kk.out
  obtain ⟨bpc0, bpc1⟩ := twob Kp.out
  go_wp2_with (first | (with_reducible refine Hs.wpList_store_blk rfl 52 _ _ rfl (G + 1 + 1 + 1) 52 _ (grantedE 1) rfl rfl (Blk.hs Kr.out) (big_grantedE 1).info ((big_grantedE 0).same (big_grantedE 1)) (big_grantedE 1).one rfl ?_))
  have BZ := below_setRow B.out (show w.heap.size ≤ G + 1 + 1 + 1 by have := HG.out; omega) (grantedE 1)
  refine bodyPost_ret (v := .agg (grantedE 1)) (results_cell_row rfl _ _ _ 52 _ (0, 0) _ rfl (Kr.out.row_ _) Tryd.underlying52 rfl (big_grantedE 1).info) rfl ?_
  exact ⟨rfl, BZ⟩
set_option maxRecDepth 100000 in
set_option maxHeartbeats 4000000 in
theorem rgrant_key (la mo : Int) (a : Option Addr) (c : Nat) (l : List Gr) (k1 k2 : Int) (k3 : ByteArray) (k4 k5 n lo hi len : Int) (w : World) (hp : GrA w a l) (hm : l.length ≤ 10000) (ok : GsOk la mo l) (hs : 0 ≤ n ∧ n < 64) (hq : perB lo hi = true) (h1 : ¬ len < 1) (h2 : ¬ mo < len) (hk : keyB (k1, k2, k3, k4, k5) = false) :
    Calls Tryd.prog 17 #[.agg #[.int .i64 la, .int .i64 mo, .slice a l.length c], .agg #[.int .i64 k1, .int .i64 k2, .string k3, .int .i64 k4, .int .i64 k5], .int .i64 n, per lo hi, .int .i64 len] w fun e w' => e = .returned (.agg (grantedE 1)) ∧ Below w.heap.size w w' := by
  have HP := Lib.hid hp
  have VA := Lib.hid (fun (X : World) (h : GrA X a l) => rvalid_any la mo a c l X h (by omega))
  have ev : validB la mo l = true := decide_eq_true ok
  rw [ev] at VA
  have SI := Lib.hid (fun (X : World) => rsite_yes hs X)
  have PE := Lib.hid (fun (X : World) => period_ref lo hi X)
  rw [hq] at PE
  have t1 : decide (len < 1) = false := decide_eq_false h1
  have t2 : decide (mo < len) = false := decide_eq_false h2
  have KV := Lib.hid (fun (X : World) => rvalid_any_key (k1, k2, k3, k4, k5) X)
  rw [hk] at KV
  simp only [encR] at KV
  obtain ⟨N, hN⟩ : ∃ N, l.length = N := ⟨_, rfl⟩
  have HE := Lib.hid hN
  simp only [hN] at VA
  rw [hN]
  clear hN hp hm ev ok hs hq h1 h2 hk
  obtain ⟨G, hG⟩ : ∃ G, w.heap.size = G := ⟨_, rfl⟩
  have HG := Lib.hid hG
  have BGr := Lib.hid (show BigR 52 ((grantedE 0)) from big_grantedE 0)
  obtain ⟨w0, hw0, Kg, Kk, Kp, Kr, B⟩ : ∃ X, ((((w.alloc (.cells #[.int .i64 la, .int .i64 mo, .slice a N c] 24)).alloc (.cells #[.int .i64 k1, .int .i64 k2, .string k3, .int .i64 k4, .int .i64 k5] 26)).alloc (.cells #[.int .i64 lo, .int .i64 hi] 28)).alloc (.cells #[.int .i64 0, .int .i64 0, .slice none 0 0, .int .i64 0, .int .i64 0, .int .i64 0, .int .i64 0, .int .u8 0, .int .u8 0, .int .u8 0, .int .u8 0, .int .u8 0, .int .u8 0, .int .u8 0, .int .u8 0, .int .u8 0, .int .u8 0, .int .u8 0, .int .u8 0, .int .u8 0, .int .u8 0, .int .u8 0, .int .u8 0, .int .i64 0] 52)) = X ∧ Hid (Blk X (G) 24 #[.int .i64 la, .int .i64 mo, .slice a N c]) ∧ Hid (Blk X (G + 1) 26 #[.int .i64 k1, .int .i64 k2, .string k3, .int .i64 k4, .int .i64 k5]) ∧ Hid (Blk X (G + 1 + 1) 28 #[.int .i64 lo, .int .i64 hi]) ∧ Hid (Blk X (G + 1 + 1 + 1) 52 ((grantedE 0))) ∧ Hid (Below w.heap.size w X) := ⟨_, rfl, Lib.hid ((((Blk.new' _ _ _ _ hG rfl).alloc _).alloc _).alloc _), Lib.hid (((Blk.new' _ _ _ _ (by rw [World.size_alloc, hG]) rfl).alloc _).alloc _), Lib.hid ((Blk.new' _ _ _ _ (by rw [World.size_alloc, World.size_alloc, hG]) rfl).alloc _), Lib.hid (Blk.new' _ _ _ _ (by rw [World.size_alloc, World.size_alloc, World.size_alloc, hG]) rfl), Lib.hid (by (repeat' (first | (with_reducible exact Below.refl _ _) | (with_reducible assumption) | (with_reducible refine Below.alloc ?_ ?_ _) | (with_reducible refine Below.drew ?_) | (with_reducible refine below_dn ?_) | (with_reducible refine Below.setCell ?_ ?_ _) | (with_reducible exact Nat.le_refl _) | omega | (simp only [World.size_alloc, World.size_setCell, World.size_drew]; omega) | (simp; omega) | (simp; done))))⟩
  go_enter Tryd.func17, Tryd.ntmps17
  go_upto_region 1 with (fail)
  try rw [hG]
  try rw [hw0]
  clear hw0 hG
  obtain ⟨bgc0, bgc1, bgc2⟩ := three Kg.out
  obtain ⟨bkc0, bkc1, bkc2, bkc3, bkc4⟩ := five Kk.out
  obtain ⟨bpc0, bpc1⟩ := twob Kp.out
  go_wp2_with (fail)
  refine (VA.out _ (HP.out.mono B.out)).mono ?_
  rintro e w1 ⟨rfl, hb⟩
  replace Kg := Lib.hid (Kg.out.below hb Kg.out.lt)
  replace Kk := Lib.hid (Kk.out.below hb Kk.out.lt)
  replace Kp := Lib.hid (Kp.out.below hb Kp.out.lt)
  replace Kr := Lib.hid (Kr.out.below hb Kr.out.lt)
  replace B := Lib.hid (B.out.trans (hb.mono B.out.size))
  clear bgc0 bgc1 bgc2 bkc0 bkc1 bkc2 bkc3 bkc4 bpc0 bpc1
  clear hb
  obtain ⟨bgc0, bgc1, bgc2⟩ := three Kg.out
  obtain ⟨bkc0, bkc1, bkc2, bkc3, bkc4⟩ := five Kk.out
  obtain ⟨bpc0, bpc1⟩ := twob Kp.out
  go_wp2_with (fail)
  refine (SI.out _).mono ?_
  rintro e w2 ⟨rfl, hb⟩
  replace Kg := Lib.hid (Kg.out.below hb Kg.out.lt)
  replace Kk := Lib.hid (Kk.out.below hb Kk.out.lt)
  replace Kp := Lib.hid (Kp.out.below hb Kp.out.lt)
  replace Kr := Lib.hid (Kr.out.below hb Kr.out.lt)
  replace B := Lib.hid (B.out.trans (hb.mono B.out.size))
  clear bgc0 bgc1 bgc2 bkc0 bkc1 bkc2 bkc3 bkc4 bpc0 bpc1
  clear hb
  obtain ⟨bgc0, bgc1, bgc2⟩ := three Kg.out
  obtain ⟨bkc0, bkc1, bkc2, bkc3, bkc4⟩ := five Kk.out
  obtain ⟨bpc0, bpc1⟩ := twob Kp.out
  go_wp2_with (fail)
  refine (PE.out _).mono ?_
  rintro e w3 ⟨rfl, hb⟩
  replace Kg := Lib.hid (Kg.out.below hb Kg.out.lt)
  replace Kk := Lib.hid (Kk.out.below hb Kk.out.lt)
  replace Kp := Lib.hid (Kp.out.below hb Kp.out.lt)
  replace Kr := Lib.hid (Kr.out.below hb Kr.out.lt)
  replace B := Lib.hid (B.out.trans (hb.mono B.out.size))
  clear bgc0 bgc1 bgc2 bkc0 bkc1 bkc2 bkc3 bkc4 bpc0 bpc1
  clear hb
  obtain ⟨bgc0, bgc1, bgc2⟩ := three Kg.out
  obtain ⟨bkc0, bkc1, bkc2, bkc3, bkc4⟩ := five Kk.out
  obtain ⟨bpc0, bpc1⟩ := twob Kp.out
  go_wp2_with (fail)
  refine (KV.out _).mono ?_
  rintro e w4 ⟨rfl, hb⟩
  replace Kg := Lib.hid (Kg.out.below hb Kg.out.lt)
  replace Kk := Lib.hid (Kk.out.below hb Kk.out.lt)
  replace Kp := Lib.hid (Kp.out.below hb Kp.out.lt)
  replace Kr := Lib.hid (Kr.out.below hb Kr.out.lt)
  replace B := Lib.hid (B.out.trans (hb.mono B.out.size))
  clear bgc0 bgc1 bgc2 bkc0 bkc1 bkc2 bkc3 bkc4 bpc0 bpc1
  clear hb
  obtain ⟨bgc0, bgc1, bgc2⟩ := three Kg.out
  obtain ⟨bkc0, bkc1, bkc2, bkc3, bkc4⟩ := five Kk.out
  obtain ⟨bpc0, bpc1⟩ := twob Kp.out
  go_wp2_with (first | (with_reducible refine Hs.wpList_store_blk rfl 52 _ _ rfl (G + 1 + 1 + 1) 52 _ (grantedE 1) rfl rfl (Blk.hs Kr.out) (big_grantedE 1).info ((big_grantedE 0).same (big_grantedE 1)) (big_grantedE 1).one rfl ?_))
  have BZ := below_setRow B.out (show w.heap.size ≤ G + 1 + 1 + 1 by have := HG.out; omega) (grantedE 1)
  refine bodyPost_ret (v := .agg (grantedE 1)) (results_cell_row rfl _ _ _ 52 _ (0, 0) _ rfl (Kr.out.row_ _) Tryd.underlying52 rfl (big_grantedE 1).info) rfl ?_
  exact ⟨rfl, BZ⟩
set_option maxRecDepth 100000 in
set_option maxHeartbeats 4000000 in
theorem rgrant_party (la mo : Int) (a : Option Addr) (c : Nat) (l : List Gr) (k1 k2 : Int) (k3 : ByteArray) (k4 k5 n lo hi len : Int) (w : World) (hp : GrA w a l) (hm : l.length ≤ 10000) (ok : GsOk la mo l) (hs : 0 ≤ n ∧ n < 64) (hq : perB lo hi = true) (h1 : ¬ len < 1) (h2 : ¬ mo < len) (hk : keyB (k1, k2, k3, k4, k5) = true) (h3 : ¬ k1 = 1) :
    Calls Tryd.prog 17 #[.agg #[.int .i64 la, .int .i64 mo, .slice a l.length c], .agg #[.int .i64 k1, .int .i64 k2, .string k3, .int .i64 k4, .int .i64 k5], .int .i64 n, per lo hi, .int .i64 len] w fun e w' => e = .returned (.agg (grantedE 1)) ∧ Below w.heap.size w w' := by
  have HP := Lib.hid hp
  have VA := Lib.hid (fun (X : World) (h : GrA X a l) => rvalid_any la mo a c l X h (by omega))
  have ev : validB la mo l = true := decide_eq_true ok
  rw [ev] at VA
  have SI := Lib.hid (fun (X : World) => rsite_yes hs X)
  have PE := Lib.hid (fun (X : World) => period_ref lo hi X)
  rw [hq] at PE
  have t1 : decide (len < 1) = false := decide_eq_false h1
  have t2 : decide (mo < len) = false := decide_eq_false h2
  have KV := Lib.hid (fun (X : World) => rvalid_any_key (k1, k2, k3, k4, k5) X)
  rw [hk] at KV
  simp only [encR] at KV
  have t3 : (k1 != 1) = true := by simp [h3]
  obtain ⟨N, hN⟩ : ∃ N, l.length = N := ⟨_, rfl⟩
  have HE := Lib.hid hN
  simp only [hN] at VA
  rw [hN]
  clear hN hp hm ev ok hs hq h1 h2 hk h3
  obtain ⟨G, hG⟩ : ∃ G, w.heap.size = G := ⟨_, rfl⟩
  have HG := Lib.hid hG
  have BGr := Lib.hid (show BigR 52 ((grantedE 0)) from big_grantedE 0)
  obtain ⟨w0, hw0, Kg, Kk, Kp, Kr, B⟩ : ∃ X, ((((w.alloc (.cells #[.int .i64 la, .int .i64 mo, .slice a N c] 24)).alloc (.cells #[.int .i64 k1, .int .i64 k2, .string k3, .int .i64 k4, .int .i64 k5] 26)).alloc (.cells #[.int .i64 lo, .int .i64 hi] 28)).alloc (.cells #[.int .i64 0, .int .i64 0, .slice none 0 0, .int .i64 0, .int .i64 0, .int .i64 0, .int .i64 0, .int .u8 0, .int .u8 0, .int .u8 0, .int .u8 0, .int .u8 0, .int .u8 0, .int .u8 0, .int .u8 0, .int .u8 0, .int .u8 0, .int .u8 0, .int .u8 0, .int .u8 0, .int .u8 0, .int .u8 0, .int .u8 0, .int .i64 0] 52)) = X ∧ Hid (Blk X (G) 24 #[.int .i64 la, .int .i64 mo, .slice a N c]) ∧ Hid (Blk X (G + 1) 26 #[.int .i64 k1, .int .i64 k2, .string k3, .int .i64 k4, .int .i64 k5]) ∧ Hid (Blk X (G + 1 + 1) 28 #[.int .i64 lo, .int .i64 hi]) ∧ Hid (Blk X (G + 1 + 1 + 1) 52 ((grantedE 0))) ∧ Hid (Below w.heap.size w X) := ⟨_, rfl, Lib.hid ((((Blk.new' _ _ _ _ hG rfl).alloc _).alloc _).alloc _), Lib.hid (((Blk.new' _ _ _ _ (by rw [World.size_alloc, hG]) rfl).alloc _).alloc _), Lib.hid ((Blk.new' _ _ _ _ (by rw [World.size_alloc, World.size_alloc, hG]) rfl).alloc _), Lib.hid (Blk.new' _ _ _ _ (by rw [World.size_alloc, World.size_alloc, World.size_alloc, hG]) rfl), Lib.hid (by (repeat' (first | (with_reducible exact Below.refl _ _) | (with_reducible assumption) | (with_reducible refine Below.alloc ?_ ?_ _) | (with_reducible refine Below.drew ?_) | (with_reducible refine below_dn ?_) | (with_reducible refine Below.setCell ?_ ?_ _) | (with_reducible exact Nat.le_refl _) | omega | (simp only [World.size_alloc, World.size_setCell, World.size_drew]; omega) | (simp; omega) | (simp; done))))⟩
  go_enter Tryd.func17, Tryd.ntmps17
  go_upto_region 1 with (fail)
  try rw [hG]
  try rw [hw0]
  clear hw0 hG
  obtain ⟨bgc0, bgc1, bgc2⟩ := three Kg.out
  obtain ⟨bkc0, bkc1, bkc2, bkc3, bkc4⟩ := five Kk.out
  obtain ⟨bpc0, bpc1⟩ := twob Kp.out
  go_wp2_with (fail)
  refine (VA.out _ (HP.out.mono B.out)).mono ?_
  rintro e w1 ⟨rfl, hb⟩
  replace Kg := Lib.hid (Kg.out.below hb Kg.out.lt)
  replace Kk := Lib.hid (Kk.out.below hb Kk.out.lt)
  replace Kp := Lib.hid (Kp.out.below hb Kp.out.lt)
  replace Kr := Lib.hid (Kr.out.below hb Kr.out.lt)
  replace B := Lib.hid (B.out.trans (hb.mono B.out.size))
  clear bgc0 bgc1 bgc2 bkc0 bkc1 bkc2 bkc3 bkc4 bpc0 bpc1
  clear hb
  obtain ⟨bgc0, bgc1, bgc2⟩ := three Kg.out
  obtain ⟨bkc0, bkc1, bkc2, bkc3, bkc4⟩ := five Kk.out
  obtain ⟨bpc0, bpc1⟩ := twob Kp.out
  go_wp2_with (fail)
  refine (SI.out _).mono ?_
  rintro e w2 ⟨rfl, hb⟩
  replace Kg := Lib.hid (Kg.out.below hb Kg.out.lt)
  replace Kk := Lib.hid (Kk.out.below hb Kk.out.lt)
  replace Kp := Lib.hid (Kp.out.below hb Kp.out.lt)
  replace Kr := Lib.hid (Kr.out.below hb Kr.out.lt)
  replace B := Lib.hid (B.out.trans (hb.mono B.out.size))
  clear bgc0 bgc1 bgc2 bkc0 bkc1 bkc2 bkc3 bkc4 bpc0 bpc1
  clear hb
  obtain ⟨bgc0, bgc1, bgc2⟩ := three Kg.out
  obtain ⟨bkc0, bkc1, bkc2, bkc3, bkc4⟩ := five Kk.out
  obtain ⟨bpc0, bpc1⟩ := twob Kp.out
  go_wp2_with (fail)
  refine (PE.out _).mono ?_
  rintro e w3 ⟨rfl, hb⟩
  replace Kg := Lib.hid (Kg.out.below hb Kg.out.lt)
  replace Kk := Lib.hid (Kk.out.below hb Kk.out.lt)
  replace Kp := Lib.hid (Kp.out.below hb Kp.out.lt)
  replace Kr := Lib.hid (Kr.out.below hb Kr.out.lt)
  replace B := Lib.hid (B.out.trans (hb.mono B.out.size))
  clear bgc0 bgc1 bgc2 bkc0 bkc1 bkc2 bkc3 bkc4 bpc0 bpc1
  clear hb
  obtain ⟨bgc0, bgc1, bgc2⟩ := three Kg.out
  obtain ⟨bkc0, bkc1, bkc2, bkc3, bkc4⟩ := five Kk.out
  obtain ⟨bpc0, bpc1⟩ := twob Kp.out
  go_wp2_with (fail)
  refine (KV.out _).mono ?_
  rintro e w4 ⟨rfl, hb⟩
  replace Kg := Lib.hid (Kg.out.below hb Kg.out.lt)
  replace Kk := Lib.hid (Kk.out.below hb Kk.out.lt)
  replace Kp := Lib.hid (Kp.out.below hb Kp.out.lt)
  replace Kr := Lib.hid (Kr.out.below hb Kr.out.lt)
  replace B := Lib.hid (B.out.trans (hb.mono B.out.size))
  clear bgc0 bgc1 bgc2 bkc0 bkc1 bkc2 bkc3 bkc4 bpc0 bpc1
  clear hb
  obtain ⟨bgc0, bgc1, bgc2⟩ := three Kg.out
  obtain ⟨bkc0, bkc1, bkc2, bkc3, bkc4⟩ := five Kk.out
  obtain ⟨bpc0, bpc1⟩ := twob Kp.out
  go_wp2_with (first | (with_reducible refine Hs.wpList_store_blk rfl 52 _ _ rfl (G + 1 + 1 + 1) 52 _ (grantedE 1) rfl rfl (Blk.hs Kr.out) (big_grantedE 1).info ((big_grantedE 0).same (big_grantedE 1)) (big_grantedE 1).one rfl ?_))
  have BZ := below_setRow B.out (show w.heap.size ≤ G + 1 + 1 + 1 by have := HG.out; omega) (grantedE 1)
  refine bodyPost_ret (v := .agg (grantedE 1)) (results_cell_row rfl _ _ _ 52 _ (0, 0) _ rfl (Kr.out.row_ _) Tryd.underlying52 rfl (big_grantedE 1).info) rfl ?_
  exact ⟨rfl, BZ⟩
set_option maxRecDepth 100000 in
set_option maxHeartbeats 4000000 in
theorem rgrant_state (la mo : Int) (a : Option Addr) (c : Nat) (l : List Gr) (k2 : Int) (k3 : ByteArray) (k4 k5 n lo hi len : Int) (w : World) (hp : GrA w a l) (hm : l.length ≤ 10000) (ok : GsOk la mo l) (hs : 0 ≤ n ∧ n < 64) (hq : perB lo hi = true) (h1 : ¬ len < 1) (h2 : ¬ mo < len) (hk : keyB (1, k2, k3, k4, k5) = true) (h4 : (rowL n l).2.1 < la) :
    Calls Tryd.prog 17 #[.agg #[.int .i64 la, .int .i64 mo, .slice a l.length c], .agg #[.int .i64 1, .int .i64 k2, .string k3, .int .i64 k4, .int .i64 k5], .int .i64 n, per lo hi, .int .i64 len] w fun e w' => e = .returned (.agg (grantedE 4)) ∧ Below w.heap.size w w' := by
  have HP := Lib.hid hp
  have VA := Lib.hid (fun (X : World) (h : GrA X a l) => rvalid_any la mo a c l X h (by omega))
  have ev : validB la mo l = true := decide_eq_true ok
  rw [ev] at VA
  have SI := Lib.hid (fun (X : World) => rsite_yes hs X)
  have PE := Lib.hid (fun (X : World) => period_ref lo hi X)
  rw [hq] at PE
  have t1 : decide (len < 1) = false := decide_eq_false h1
  have t2 : decide (mo < len) = false := decide_eq_false h2
  have KV := Lib.hid (fun (X : World) => rvalid_any_key (1, k2, k3, k4, k5) X)
  rw [hk] at KV
  simp only [encR] at KV
  have FI := Lib.hid (fun (X : World) (h : GrA X a l) => find_any la mo a c l n X h ok.ord (by omega))
  have RS := Lib.hid (rowL_site n l)
  have RK := Lib.hid (rowL_ok ok hs)
  skip
  skip
  skip
  obtain ⟨⟨x1, x2, x3⟩, hx⟩ : ∃ x, rowL n l = x := ⟨_, rfl⟩
  rw [hx] at FI RS RK h4
  have e1 : x1 = n := RS.out
  subst e1
  simp only [encG] at FI
  clear hx RS
  have h4b : x2 < la := h4
  have t4 : decide (x2 < la) = true := decide_eq_true h4b
  obtain ⟨N, hN⟩ : ∃ N, l.length = N := ⟨_, rfl⟩
  have HE := Lib.hid hN
  simp only [hN] at VA FI
  rw [hN]
  clear hN hp hm ev ok hs hq h1 h2 hk h4 h4b
  obtain ⟨G, hG⟩ : ∃ G, w.heap.size = G := ⟨_, rfl⟩
  have HG := Lib.hid hG
  have BGr := Lib.hid (show BigR 52 ((grantedE 0)) from big_grantedE 0)
  obtain ⟨w0, hw0, Kg, Kk, Kp, Kr, B⟩ : ∃ X, ((((w.alloc (.cells #[.int .i64 la, .int .i64 mo, .slice a N c] 24)).alloc (.cells #[.int .i64 1, .int .i64 k2, .string k3, .int .i64 k4, .int .i64 k5] 26)).alloc (.cells #[.int .i64 lo, .int .i64 hi] 28)).alloc (.cells #[.int .i64 0, .int .i64 0, .slice none 0 0, .int .i64 0, .int .i64 0, .int .i64 0, .int .i64 0, .int .u8 0, .int .u8 0, .int .u8 0, .int .u8 0, .int .u8 0, .int .u8 0, .int .u8 0, .int .u8 0, .int .u8 0, .int .u8 0, .int .u8 0, .int .u8 0, .int .u8 0, .int .u8 0, .int .u8 0, .int .u8 0, .int .i64 0] 52)) = X ∧ Hid (Blk X (G) 24 #[.int .i64 la, .int .i64 mo, .slice a N c]) ∧ Hid (Blk X (G + 1) 26 #[.int .i64 1, .int .i64 k2, .string k3, .int .i64 k4, .int .i64 k5]) ∧ Hid (Blk X (G + 1 + 1) 28 #[.int .i64 lo, .int .i64 hi]) ∧ Hid (Blk X (G + 1 + 1 + 1) 52 ((grantedE 0))) ∧ Hid (Below w.heap.size w X) := ⟨_, rfl, Lib.hid ((((Blk.new' _ _ _ _ hG rfl).alloc _).alloc _).alloc _), Lib.hid (((Blk.new' _ _ _ _ (by rw [World.size_alloc, hG]) rfl).alloc _).alloc _), Lib.hid ((Blk.new' _ _ _ _ (by rw [World.size_alloc, World.size_alloc, hG]) rfl).alloc _), Lib.hid (Blk.new' _ _ _ _ (by rw [World.size_alloc, World.size_alloc, World.size_alloc, hG]) rfl), Lib.hid (by (repeat' (first | (with_reducible exact Below.refl _ _) | (with_reducible assumption) | (with_reducible refine Below.alloc ?_ ?_ _) | (with_reducible refine Below.drew ?_) | (with_reducible refine below_dn ?_) | (with_reducible refine Below.setCell ?_ ?_ _) | (with_reducible exact Nat.le_refl _) | omega | (simp only [World.size_alloc, World.size_setCell, World.size_drew]; omega) | (simp; omega) | (simp; done))))⟩
  go_enter Tryd.func17, Tryd.ntmps17
  go_upto_region 1 with (fail)
  try rw [hG]
  try rw [hw0]
  clear hw0 hG
  obtain ⟨bgc0, bgc1, bgc2⟩ := three Kg.out
  obtain ⟨bkc0, bkc1, bkc2, bkc3, bkc4⟩ := five Kk.out
  obtain ⟨bpc0, bpc1⟩ := twob Kp.out
  go_wp2_with (fail)
  refine (VA.out _ (HP.out.mono B.out)).mono ?_
  rintro e w1 ⟨rfl, hb⟩
  replace Kg := Lib.hid (Kg.out.below hb Kg.out.lt)
  replace Kk := Lib.hid (Kk.out.below hb Kk.out.lt)
  replace Kp := Lib.hid (Kp.out.below hb Kp.out.lt)
  replace Kr := Lib.hid (Kr.out.below hb Kr.out.lt)
  replace B := Lib.hid (B.out.trans (hb.mono B.out.size))
  clear bgc0 bgc1 bgc2 bkc0 bkc1 bkc2 bkc3 bkc4 bpc0 bpc1
  clear hb
  obtain ⟨bgc0, bgc1, bgc2⟩ := three Kg.out
  obtain ⟨bkc0, bkc1, bkc2, bkc3, bkc4⟩ := five Kk.out
  obtain ⟨bpc0, bpc1⟩ := twob Kp.out
  go_wp2_with (fail)
  refine (SI.out _).mono ?_
  rintro e w2 ⟨rfl, hb⟩
  replace Kg := Lib.hid (Kg.out.below hb Kg.out.lt)
  replace Kk := Lib.hid (Kk.out.below hb Kk.out.lt)
  replace Kp := Lib.hid (Kp.out.below hb Kp.out.lt)
  replace Kr := Lib.hid (Kr.out.below hb Kr.out.lt)
  replace B := Lib.hid (B.out.trans (hb.mono B.out.size))
  clear bgc0 bgc1 bgc2 bkc0 bkc1 bkc2 bkc3 bkc4 bpc0 bpc1
  clear hb
  obtain ⟨bgc0, bgc1, bgc2⟩ := three Kg.out
  obtain ⟨bkc0, bkc1, bkc2, bkc3, bkc4⟩ := five Kk.out
  obtain ⟨bpc0, bpc1⟩ := twob Kp.out
  go_wp2_with (fail)
  refine (PE.out _).mono ?_
  rintro e w3 ⟨rfl, hb⟩
  replace Kg := Lib.hid (Kg.out.below hb Kg.out.lt)
  replace Kk := Lib.hid (Kk.out.below hb Kk.out.lt)
  replace Kp := Lib.hid (Kp.out.below hb Kp.out.lt)
  replace Kr := Lib.hid (Kr.out.below hb Kr.out.lt)
  replace B := Lib.hid (B.out.trans (hb.mono B.out.size))
  clear bgc0 bgc1 bgc2 bkc0 bkc1 bkc2 bkc3 bkc4 bpc0 bpc1
  clear hb
  obtain ⟨bgc0, bgc1, bgc2⟩ := three Kg.out
  obtain ⟨bkc0, bkc1, bkc2, bkc3, bkc4⟩ := five Kk.out
  obtain ⟨bpc0, bpc1⟩ := twob Kp.out
  go_wp2_with (fail)
  refine (KV.out _).mono ?_
  rintro e w4 ⟨rfl, hb⟩
  replace Kg := Lib.hid (Kg.out.below hb Kg.out.lt)
  replace Kk := Lib.hid (Kk.out.below hb Kk.out.lt)
  replace Kp := Lib.hid (Kp.out.below hb Kp.out.lt)
  replace Kr := Lib.hid (Kr.out.below hb Kr.out.lt)
  replace B := Lib.hid (B.out.trans (hb.mono B.out.size))
  clear bgc0 bgc1 bgc2 bkc0 bkc1 bkc2 bkc3 bkc4 bpc0 bpc1
  clear hb
  obtain ⟨bgc0, bgc1, bgc2⟩ := three Kg.out
  obtain ⟨bkc0, bkc1, bkc2, bkc3, bkc4⟩ := five Kk.out
  obtain ⟨bpc0, bpc1⟩ := twob Kp.out
  go_wp2_with (fail)
  refine (FI.out _ (HP.out.mono B.out)).mono ?_
  rintro e w5 ⟨rfl, hb⟩
  replace Kg := Lib.hid (Kg.out.below hb Kg.out.lt)
  replace Kk := Lib.hid (Kk.out.below hb Kk.out.lt)
  replace Kp := Lib.hid (Kp.out.below hb Kp.out.lt)
  replace Kr := Lib.hid (Kr.out.below hb Kr.out.lt)
  replace B := Lib.hid (B.out.trans (hb.mono B.out.size))
  clear bgc0 bgc1 bgc2 bkc0 bkc1 bkc2 bkc3 bkc4 bpc0 bpc1
  clear hb
  obtain ⟨bgc0, bgc1, bgc2⟩ := three Kg.out
  obtain ⟨bkc0, bkc1, bkc2, bkc3, bkc4⟩ := five Kk.out
  obtain ⟨bpc0, bpc1⟩ := twob Kp.out
  clear bgc0 bgc1 bgc2 bkc0 bkc1 bkc2 bkc3 bkc4 bpc0 bpc1
  obtain ⟨bgc0, bgc1, bgc2⟩ := three Kg.out
  obtain ⟨bkc0, bkc1, bkc2, bkc3, bkc4⟩ := five Kk.out
  obtain ⟨bpc0, bpc1⟩ := twob Kp.out
  obtain ⟨gx, hgx⟩ : ∃ G, w5.heap.size = G := ⟨_, rfl⟩
  have Kx := Lib.hid (show Blk (w5.alloc (.cells #[.int .i64 x1, .int .i64 x2, .int .i64 x3] 88)) gx 88 #[.int .i64 x1, .int .i64 x2, .int .i64 x3] from Blk.new' w5 _ _ _ hgx rfl)
  have Ngx := Lib.hid (show G < gx from by rw [← hgx]; exact Kg.out.lt)
  replace Kg := Lib.hid (Kg.out.alloc (.cells #[.int .i64 x1, .int .i64 x2, .int .i64 x3] 88))
  have Nkx := Lib.hid (show G + 1 < gx from by rw [← hgx]; exact Kk.out.lt)
  replace Kk := Lib.hid (Kk.out.alloc (.cells #[.int .i64 x1, .int .i64 x2, .int .i64 x3] 88))
  have Npx := Lib.hid (show G + 1 + 1 < gx from by rw [← hgx]; exact Kp.out.lt)
  replace Kp := Lib.hid (Kp.out.alloc (.cells #[.int .i64 x1, .int .i64 x2, .int .i64 x3] 88))
  have Nrx := Lib.hid (show G + 1 + 1 + 1 < gx from by rw [← hgx]; exact Kr.out.lt)
  replace Kr := Lib.hid (Kr.out.alloc (.cells #[.int .i64 x1, .int .i64 x2, .int .i64 x3] 88))
  have Lx := Lib.hid (show w.heap.size ≤ gx from by rw [← hgx]; exact B.out.size)
  replace B := Lib.hid (B.out.alloc B.out.size (.cells #[.int .i64 x1, .int .i64 x2, .int .i64 x3] 88))
  go_upto_region 4 with (fail)
  try rw [hgx]
  generalize hw : w5.alloc (.cells #[.int .i64 x1, .int .i64 x2, .int .i64 x3] 88) = w6 at Kg Kk Kp Kr Kx  B ⊢
  clear bgc0 bgc1 bgc2 bkc0 bkc1 bkc2 bkc3 bkc4 bpc0 bpc1
  clear hw hgx
  obtain ⟨bgc0, bgc1, bgc2⟩ := three Kg.out
  obtain ⟨bkc0, bkc1, bkc2, bkc3, bkc4⟩ := five Kk.out
  obtain ⟨bpc0, bpc1⟩ := twob Kp.out
  obtain ⟨bxc0, bxc1, bxc2⟩ := three Kx.out
  go_wp2_with (first | (with_reducible refine Hs.wpList_store_blk rfl 52 _ _ rfl (G + 1 + 1 + 1) 52 _ (grantedE 4) rfl rfl (Blk.hs Kr.out) (big_grantedE 4).info ((big_grantedE 0).same (big_grantedE 4)) (big_grantedE 4).one rfl ?_))
  have BZ := below_setRow B.out (show w.heap.size ≤ G + 1 + 1 + 1 by have := HG.out; omega) (grantedE 4)
  refine bodyPost_ret (v := .agg (grantedE 4)) (results_cell_row rfl _ _ _ 52 _ (0, 0) _ rfl (Kr.out.row_ _) Tryd.underlying52 rfl (big_grantedE 4).info) rfl ?_
  exact ⟨rfl, BZ⟩
set_option maxRecDepth 100000 in
set_option maxHeartbeats 4000000 in
theorem rgrant_lim (la mo : Int) (a : Option Addr) (c : Nat) (l : List Gr) (k2 : Int) (k3 : ByteArray) (k4 k5 n lo hi len : Int) (w : World) (hp : GrA w a l) (hm : l.length ≤ 10000) (ok : GsOk la mo l) (hs : 0 ≤ n ∧ n < 64) (hq : perB lo hi = true) (h1 : ¬ len < 1) (h2 : ¬ mo < len) (hk : keyB (1, k2, k3, k4, k5) = true) (h4 : ¬ (rowL n l).2.1 < la) (h5 : 1099511627776 < lo + len) :
    Calls Tryd.prog 17 #[.agg #[.int .i64 la, .int .i64 mo, .slice a l.length c], .agg #[.int .i64 1, .int .i64 k2, .string k3, .int .i64 k4, .int .i64 k5], .int .i64 n, per lo hi, .int .i64 len] w fun e w' => e = .returned (.agg (grantedE 2)) ∧ Below w.heap.size w w' := by
  have HP := Lib.hid hp
  have VA := Lib.hid (fun (X : World) (h : GrA X a l) => rvalid_any la mo a c l X h (by omega))
  have ev : validB la mo l = true := decide_eq_true ok
  rw [ev] at VA
  have SI := Lib.hid (fun (X : World) => rsite_yes hs X)
  have PE := Lib.hid (fun (X : World) => period_ref lo hi X)
  rw [hq] at PE
  have t1 : decide (len < 1) = false := decide_eq_false h1
  have t2 : decide (mo < len) = false := decide_eq_false h2
  have KV := Lib.hid (fun (X : World) => rvalid_any_key (1, k2, k3, k4, k5) X)
  rw [hk] at KV
  simp only [encR] at KV
  have FI := Lib.hid (fun (X : World) (h : GrA X a l) => find_any la mo a c l n X h ok.ord (by omega))
  have RS := Lib.hid (rowL_site n l)
  have RK := Lib.hid (rowL_ok ok hs)
  skip
  skip
  have LW : IntKind.i64.wrap (lo + len) = lo + len := by have := of_decide_eq_true hq; have := ok.mo1; rw [IntKind.wrap_i64]; omega
  obtain ⟨⟨x1, x2, x3⟩, hx⟩ : ∃ x, rowL n l = x := ⟨_, rfl⟩
  rw [hx] at FI RS RK h4
  have e1 : x1 = n := RS.out
  subst e1
  simp only [encG] at FI
  clear hx RS
  have h4b : ¬ x2 < la := h4
  have t4 : decide (x2 < la) = false := decide_eq_false h4b
  have t5 : decide (1099511627776 < lo + len) = true := decide_eq_true h5
  obtain ⟨N, hN⟩ : ∃ N, l.length = N := ⟨_, rfl⟩
  have HE := Lib.hid hN
  simp only [hN] at VA FI
  rw [hN]
  clear hN hp hm ev ok hs hq h1 h2 hk h4 h4b h5
  obtain ⟨G, hG⟩ : ∃ G, w.heap.size = G := ⟨_, rfl⟩
  have HG := Lib.hid hG
  have BGr := Lib.hid (show BigR 52 ((grantedE 0)) from big_grantedE 0)
  obtain ⟨w0, hw0, Kg, Kk, Kp, Kr, B⟩ : ∃ X, ((((w.alloc (.cells #[.int .i64 la, .int .i64 mo, .slice a N c] 24)).alloc (.cells #[.int .i64 1, .int .i64 k2, .string k3, .int .i64 k4, .int .i64 k5] 26)).alloc (.cells #[.int .i64 lo, .int .i64 hi] 28)).alloc (.cells #[.int .i64 0, .int .i64 0, .slice none 0 0, .int .i64 0, .int .i64 0, .int .i64 0, .int .i64 0, .int .u8 0, .int .u8 0, .int .u8 0, .int .u8 0, .int .u8 0, .int .u8 0, .int .u8 0, .int .u8 0, .int .u8 0, .int .u8 0, .int .u8 0, .int .u8 0, .int .u8 0, .int .u8 0, .int .u8 0, .int .u8 0, .int .i64 0] 52)) = X ∧ Hid (Blk X (G) 24 #[.int .i64 la, .int .i64 mo, .slice a N c]) ∧ Hid (Blk X (G + 1) 26 #[.int .i64 1, .int .i64 k2, .string k3, .int .i64 k4, .int .i64 k5]) ∧ Hid (Blk X (G + 1 + 1) 28 #[.int .i64 lo, .int .i64 hi]) ∧ Hid (Blk X (G + 1 + 1 + 1) 52 ((grantedE 0))) ∧ Hid (Below w.heap.size w X) := ⟨_, rfl, Lib.hid ((((Blk.new' _ _ _ _ hG rfl).alloc _).alloc _).alloc _), Lib.hid (((Blk.new' _ _ _ _ (by rw [World.size_alloc, hG]) rfl).alloc _).alloc _), Lib.hid ((Blk.new' _ _ _ _ (by rw [World.size_alloc, World.size_alloc, hG]) rfl).alloc _), Lib.hid (Blk.new' _ _ _ _ (by rw [World.size_alloc, World.size_alloc, World.size_alloc, hG]) rfl), Lib.hid (by (repeat' (first | (with_reducible exact Below.refl _ _) | (with_reducible assumption) | (with_reducible refine Below.alloc ?_ ?_ _) | (with_reducible refine Below.drew ?_) | (with_reducible refine below_dn ?_) | (with_reducible refine Below.setCell ?_ ?_ _) | (with_reducible exact Nat.le_refl _) | omega | (simp only [World.size_alloc, World.size_setCell, World.size_drew]; omega) | (simp; omega) | (simp; done))))⟩
  go_enter Tryd.func17, Tryd.ntmps17
  go_upto_region 1 with (fail)
  try rw [hG]
  try rw [hw0]
  clear hw0 hG
  obtain ⟨bgc0, bgc1, bgc2⟩ := three Kg.out
  obtain ⟨bkc0, bkc1, bkc2, bkc3, bkc4⟩ := five Kk.out
  obtain ⟨bpc0, bpc1⟩ := twob Kp.out
  go_wp2_with (fail)
  refine (VA.out _ (HP.out.mono B.out)).mono ?_
  rintro e w1 ⟨rfl, hb⟩
  replace Kg := Lib.hid (Kg.out.below hb Kg.out.lt)
  replace Kk := Lib.hid (Kk.out.below hb Kk.out.lt)
  replace Kp := Lib.hid (Kp.out.below hb Kp.out.lt)
  replace Kr := Lib.hid (Kr.out.below hb Kr.out.lt)
  replace B := Lib.hid (B.out.trans (hb.mono B.out.size))
  clear bgc0 bgc1 bgc2 bkc0 bkc1 bkc2 bkc3 bkc4 bpc0 bpc1
  clear hb
  obtain ⟨bgc0, bgc1, bgc2⟩ := three Kg.out
  obtain ⟨bkc0, bkc1, bkc2, bkc3, bkc4⟩ := five Kk.out
  obtain ⟨bpc0, bpc1⟩ := twob Kp.out
  go_wp2_with (fail)
  refine (SI.out _).mono ?_
  rintro e w2 ⟨rfl, hb⟩
  replace Kg := Lib.hid (Kg.out.below hb Kg.out.lt)
  replace Kk := Lib.hid (Kk.out.below hb Kk.out.lt)
  replace Kp := Lib.hid (Kp.out.below hb Kp.out.lt)
  replace Kr := Lib.hid (Kr.out.below hb Kr.out.lt)
  replace B := Lib.hid (B.out.trans (hb.mono B.out.size))
  clear bgc0 bgc1 bgc2 bkc0 bkc1 bkc2 bkc3 bkc4 bpc0 bpc1
  clear hb
  obtain ⟨bgc0, bgc1, bgc2⟩ := three Kg.out
  obtain ⟨bkc0, bkc1, bkc2, bkc3, bkc4⟩ := five Kk.out
  obtain ⟨bpc0, bpc1⟩ := twob Kp.out
  go_wp2_with (fail)
  refine (PE.out _).mono ?_
  rintro e w3 ⟨rfl, hb⟩
  replace Kg := Lib.hid (Kg.out.below hb Kg.out.lt)
  replace Kk := Lib.hid (Kk.out.below hb Kk.out.lt)
  replace Kp := Lib.hid (Kp.out.below hb Kp.out.lt)
  replace Kr := Lib.hid (Kr.out.below hb Kr.out.lt)
  replace B := Lib.hid (B.out.trans (hb.mono B.out.size))
  clear bgc0 bgc1 bgc2 bkc0 bkc1 bkc2 bkc3 bkc4 bpc0 bpc1
  clear hb
  obtain ⟨bgc0, bgc1, bgc2⟩ := three Kg.out
  obtain ⟨bkc0, bkc1, bkc2, bkc3, bkc4⟩ := five Kk.out
  obtain ⟨bpc0, bpc1⟩ := twob Kp.out
  go_wp2_with (fail)
  refine (KV.out _).mono ?_
  rintro e w4 ⟨rfl, hb⟩
  replace Kg := Lib.hid (Kg.out.below hb Kg.out.lt)
  replace Kk := Lib.hid (Kk.out.below hb Kk.out.lt)
  replace Kp := Lib.hid (Kp.out.below hb Kp.out.lt)
  replace Kr := Lib.hid (Kr.out.below hb Kr.out.lt)
  replace B := Lib.hid (B.out.trans (hb.mono B.out.size))
  clear bgc0 bgc1 bgc2 bkc0 bkc1 bkc2 bkc3 bkc4 bpc0 bpc1
  clear hb
  obtain ⟨bgc0, bgc1, bgc2⟩ := three Kg.out
  obtain ⟨bkc0, bkc1, bkc2, bkc3, bkc4⟩ := five Kk.out
  obtain ⟨bpc0, bpc1⟩ := twob Kp.out
  go_wp2_with (fail)
  refine (FI.out _ (HP.out.mono B.out)).mono ?_
  rintro e w5 ⟨rfl, hb⟩
  replace Kg := Lib.hid (Kg.out.below hb Kg.out.lt)
  replace Kk := Lib.hid (Kk.out.below hb Kk.out.lt)
  replace Kp := Lib.hid (Kp.out.below hb Kp.out.lt)
  replace Kr := Lib.hid (Kr.out.below hb Kr.out.lt)
  replace B := Lib.hid (B.out.trans (hb.mono B.out.size))
  clear bgc0 bgc1 bgc2 bkc0 bkc1 bkc2 bkc3 bkc4 bpc0 bpc1
  clear hb
  obtain ⟨bgc0, bgc1, bgc2⟩ := three Kg.out
  obtain ⟨bkc0, bkc1, bkc2, bkc3, bkc4⟩ := five Kk.out
  obtain ⟨bpc0, bpc1⟩ := twob Kp.out
  clear bgc0 bgc1 bgc2 bkc0 bkc1 bkc2 bkc3 bkc4 bpc0 bpc1
  obtain ⟨bgc0, bgc1, bgc2⟩ := three Kg.out
  obtain ⟨bkc0, bkc1, bkc2, bkc3, bkc4⟩ := five Kk.out
  obtain ⟨bpc0, bpc1⟩ := twob Kp.out
  obtain ⟨gx, hgx⟩ : ∃ G, w5.heap.size = G := ⟨_, rfl⟩
  have Kx := Lib.hid (show Blk (w5.alloc (.cells #[.int .i64 x1, .int .i64 x2, .int .i64 x3] 88)) gx 88 #[.int .i64 x1, .int .i64 x2, .int .i64 x3] from Blk.new' w5 _ _ _ hgx rfl)
  have Ngx := Lib.hid (show G < gx from by rw [← hgx]; exact Kg.out.lt)
  replace Kg := Lib.hid (Kg.out.alloc (.cells #[.int .i64 x1, .int .i64 x2, .int .i64 x3] 88))
  have Nkx := Lib.hid (show G + 1 < gx from by rw [← hgx]; exact Kk.out.lt)
  replace Kk := Lib.hid (Kk.out.alloc (.cells #[.int .i64 x1, .int .i64 x2, .int .i64 x3] 88))
  have Npx := Lib.hid (show G + 1 + 1 < gx from by rw [← hgx]; exact Kp.out.lt)
  replace Kp := Lib.hid (Kp.out.alloc (.cells #[.int .i64 x1, .int .i64 x2, .int .i64 x3] 88))
  have Nrx := Lib.hid (show G + 1 + 1 + 1 < gx from by rw [← hgx]; exact Kr.out.lt)
  replace Kr := Lib.hid (Kr.out.alloc (.cells #[.int .i64 x1, .int .i64 x2, .int .i64 x3] 88))
  have Lx := Lib.hid (show w.heap.size ≤ gx from by rw [← hgx]; exact B.out.size)
  replace B := Lib.hid (B.out.alloc B.out.size (.cells #[.int .i64 x1, .int .i64 x2, .int .i64 x3] 88))
  go_upto_region 4 with (fail)
  try rw [hgx]
  generalize hw : w5.alloc (.cells #[.int .i64 x1, .int .i64 x2, .int .i64 x3] 88) = w6 at Kg Kk Kp Kr Kx  B ⊢
  clear bgc0 bgc1 bgc2 bkc0 bkc1 bkc2 bkc3 bkc4 bpc0 bpc1
  clear hw hgx
  obtain ⟨bgc0, bgc1, bgc2⟩ := three Kg.out
  obtain ⟨bkc0, bkc1, bkc2, bkc3, bkc4⟩ := five Kk.out
  obtain ⟨bpc0, bpc1⟩ := twob Kp.out
  obtain ⟨bxc0, bxc1, bxc2⟩ := three Kx.out
  go_wp2_with (first | (with_reducible refine Hs.wpList_store_blk rfl 52 _ _ rfl (G + 1 + 1 + 1) 52 _ (grantedE 2) rfl rfl (Blk.hs Kr.out) (big_grantedE 2).info ((big_grantedE 0).same (big_grantedE 2)) (big_grantedE 2).one rfl ?_))
  have BZ := below_setRow B.out (show w.heap.size ≤ G + 1 + 1 + 1 by have := HG.out; omega) (grantedE 2)
  refine bodyPost_ret (v := .agg (grantedE 2)) (results_cell_row rfl _ _ _ 52 _ (0, 0) _ rfl (Kr.out.row_ _) Tryd.underlying52 rfl (big_grantedE 2).info) rfl ?_
  exact ⟨rfl, BZ⟩
set_option maxRecDepth 100000 in
set_option maxHeartbeats 4000000 in
theorem rgrant_keep (la mo : Int) (a : Option Addr) (c : Nat) (l : List Gr) (k2 : Int) (k3 : ByteArray) (k4 k5 n lo hi len : Int) (w : World) (hp : GrA w a l) (hm : l.length ≤ 10000) (ok : GsOk la mo l) (hs : 0 ≤ n ∧ n < 64) (hq : perB lo hi = true) (h1 : ¬ len < 1) (h2 : ¬ mo < len) (hk : keyB (1, k2, k3, k4, k5) = true) (h4 : ¬ (rowL n l).2.1 < la) (h5 : ¬ 1099511627776 < lo + len) (hla : Hs.LaidK w) (h6 : lo + len ≤ (rowL n l).2.2) :
    Calls Tryd.prog 17 #[.agg #[.int .i64 la, .int .i64 mo, .slice a l.length c], .agg #[.int .i64 1, .int .i64 k2, .string k3, .int .i64 k4, .int .i64 k5], .int .i64 n, per lo hi, .int .i64 len] w fun e w' => e = .returned (.agg (grantedC la mo a l.length c n la (lo + len) k2 (sealD k2 k3 n la (lo + len)))) ∧ Below w.heap.size w w' := by
  have HP := Lib.hid hp
  have VA := Lib.hid (fun (X : World) (h : GrA X a l) => rvalid_any la mo a c l X h (by omega))
  have ev : validB la mo l = true := decide_eq_true ok
  rw [ev] at VA
  have SI := Lib.hid (fun (X : World) => rsite_yes hs X)
  have PE := Lib.hid (fun (X : World) => period_ref lo hi X)
  rw [hq] at PE
  have t1 : decide (len < 1) = false := decide_eq_false h1
  have t2 : decide (mo < len) = false := decide_eq_false h2
  have KV := Lib.hid (fun (X : World) => rvalid_any_key (1, k2, k3, k4, k5) X)
  rw [hk] at KV
  simp only [encR] at KV
  have FI := Lib.hid (fun (X : World) (h : GrA X a l) => find_any la mo a c l n X h ok.ord (by omega))
  have RS := Lib.hid (rowL_site n l)
  have RK := Lib.hid (rowL_ok ok hs)
  have WS := Lib.hid (with_self n l)
  skip
  have LW : IntKind.i64.wrap (lo + len) = lo + len := by have := of_decide_eq_true hq; have := ok.mo1; rw [IntKind.wrap_i64]; omega
  have C5 := Lib.hid (fun (X : World) (h : Hs.LaidK X) => show Calls Tryd.prog 45 #[.agg #[.int .i64 1, .int .i64 k2, .string k3, .int .i64 k4, .int .i64 k5], .agg #[.int .i64 n, .int .i64 la, .int .i64 (lo + len), .int .i64 0, .int .u8 0, .int .u8 0, .int .u8 0, .int .u8 0, .int .u8 0, .int .u8 0, .int .u8 0, .int .u8 0, .int .u8 0, .int .u8 0, .int .u8 0, .int .u8 0, .int .u8 0, .int .u8 0, .int .u8 0, .int .u8 0]] X fun e w' => e = .returned (.agg (leaseC n la (lo + len) k2 (sealD k2 k3 n la (lo + len)))) ∧ Below X.heap.size X w' from rsealLease_any (1, k2, k3, k4, k5) n la (lo + len) 0 (List.replicate 16 0) X rfl (by unfold i64Ok; omega) (by have := ok.la0; unfold i64Ok; omega) (by have := of_decide_eq_true hq; have := ok.mo1; unfold i64Ok; omega) (by have := (of_decide_eq_true hk).2.1; unfold i64Ok; omega) (by have := (of_decide_eq_true hk).2.2.1; omega) h)
  have HLA := Lib.hid hla
  have hDl : (sealD k2 k3 n la (lo + len)).length = 16 := sealD_len _ _ _ _ _
  have BF := Lib.hid (fun (a : Option Addr) (N c : Nat) (W : World) => build_granted la mo a N c n la (lo + len) k2 hDl W)
  have BNg := Lib.hid (fun (a : Option Addr) (N c : Nat) => big_grantedC la mo a N c n la (lo + len) k2 hDl)
  have BNl := Lib.hid (big_lease (s := n) (e := la) (u := lo + len) (r := k2) hDl)
  obtain ⟨GC, hGC⟩ : ∃ g : Option Addr → Nat → Nat → Array Value, (fun a N c => grantedC la mo a N c n la (lo + len) k2 (sealD k2 k3 n la (lo + len))) = g := ⟨_, rfl⟩
  have eG : ∀ a N c, grantedC la mo a N c n la (lo + len) k2 (sealD k2 k3 n la (lo + len)) = GC a N c := fun a N c => by rw [← hGC]
  simp only [eG] at BF BNg ⊢
  obtain ⟨LC, hLC⟩ : ∃ C, leaseC n la (lo + len) k2 (sealD k2 k3 n la (lo + len)) = C := ⟨_, rfl⟩
  simp only [hLC] at C5 BF BNl
  clear hGC eG hLC hDl hla
  obtain ⟨⟨x1, x2, x3⟩, hx⟩ : ∃ x, rowL n l = x := ⟨_, rfl⟩
  rw [hx] at FI RS RK h4 h6
  have e1 : x1 = n := RS.out
  subst e1
  simp only [encG] at FI
  clear hx RS
  have h4b : ¬ x2 < la := h4
  have t4 : decide (x2 < la) = false := decide_eq_false h4b
  have t5 : decide (1099511627776 < lo + len) = false := decide_eq_false h5
  have h6b : lo + len ≤ x3 := h6
  have t6 : decide (lo + len ≤ x3) = true := decide_eq_true h6b
  obtain ⟨u, hu⟩ : ∃ u, lo + len = u := ⟨_, rfl⟩
  rw [hu] at LW t5 t6
  simp only [hu] at C5
  have HU := Lib.hid hu
  clear hu
  obtain ⟨N, hN⟩ : ∃ N, l.length = N := ⟨_, rfl⟩
  have HE := Lib.hid hN
  simp only [hN] at VA FI
  rw [hN]
  clear hN hp hm ev ok hs hq h1 h2 hk h4 h4b h5 h6 h6b
  obtain ⟨G, hG⟩ : ∃ G, w.heap.size = G := ⟨_, rfl⟩
  have HG := Lib.hid hG
  have BGr := Lib.hid (show BigR 52 ((grantedE 0)) from big_grantedE 0)
  obtain ⟨w0, hw0, Kg, Kk, Kp, Kr, B⟩ : ∃ X, ((((w.alloc (.cells #[.int .i64 la, .int .i64 mo, .slice a N c] 24)).alloc (.cells #[.int .i64 1, .int .i64 k2, .string k3, .int .i64 k4, .int .i64 k5] 26)).alloc (.cells #[.int .i64 lo, .int .i64 hi] 28)).alloc (.cells #[.int .i64 0, .int .i64 0, .slice none 0 0, .int .i64 0, .int .i64 0, .int .i64 0, .int .i64 0, .int .u8 0, .int .u8 0, .int .u8 0, .int .u8 0, .int .u8 0, .int .u8 0, .int .u8 0, .int .u8 0, .int .u8 0, .int .u8 0, .int .u8 0, .int .u8 0, .int .u8 0, .int .u8 0, .int .u8 0, .int .u8 0, .int .i64 0] 52)) = X ∧ Hid (Blk X (G) 24 #[.int .i64 la, .int .i64 mo, .slice a N c]) ∧ Hid (Blk X (G + 1) 26 #[.int .i64 1, .int .i64 k2, .string k3, .int .i64 k4, .int .i64 k5]) ∧ Hid (Blk X (G + 1 + 1) 28 #[.int .i64 lo, .int .i64 hi]) ∧ Hid (Blk X (G + 1 + 1 + 1) 52 ((grantedE 0))) ∧ Hid (Below w.heap.size w X) := ⟨_, rfl, Lib.hid ((((Blk.new' _ _ _ _ hG rfl).alloc _).alloc _).alloc _), Lib.hid (((Blk.new' _ _ _ _ (by rw [World.size_alloc, hG]) rfl).alloc _).alloc _), Lib.hid ((Blk.new' _ _ _ _ (by rw [World.size_alloc, World.size_alloc, hG]) rfl).alloc _), Lib.hid (Blk.new' _ _ _ _ (by rw [World.size_alloc, World.size_alloc, World.size_alloc, hG]) rfl), Lib.hid (by (repeat' (first | (with_reducible exact Below.refl _ _) | (with_reducible assumption) | (with_reducible refine Below.alloc ?_ ?_ _) | (with_reducible refine Below.drew ?_) | (with_reducible refine below_dn ?_) | (with_reducible refine Below.setCell ?_ ?_ _) | (with_reducible exact Nat.le_refl _) | omega | (simp only [World.size_alloc, World.size_setCell, World.size_drew]; omega) | (simp; omega) | (simp; done))))⟩
  go_enter Tryd.func17, Tryd.ntmps17
  go_upto_region 1 with (fail)
  try rw [hG]
  try rw [hw0]
  clear hw0 hG
  obtain ⟨bgc0, bgc1, bgc2⟩ := three Kg.out
  obtain ⟨bkc0, bkc1, bkc2, bkc3, bkc4⟩ := five Kk.out
  obtain ⟨bpc0, bpc1⟩ := twob Kp.out
  have q9 := HU.out
  go_wp2_with (fail)
  refine (VA.out _ (HP.out.mono B.out)).mono ?_
  rintro e w1 ⟨rfl, hb⟩
  replace Kg := Lib.hid (Kg.out.below hb Kg.out.lt)
  replace Kk := Lib.hid (Kk.out.below hb Kk.out.lt)
  replace Kp := Lib.hid (Kp.out.below hb Kp.out.lt)
  replace Kr := Lib.hid (Kr.out.below hb Kr.out.lt)
  replace B := Lib.hid (B.out.trans (hb.mono B.out.size))
  clear bgc0 bgc1 bgc2 bkc0 bkc1 bkc2 bkc3 bkc4 bpc0 bpc1
  clear hb
  obtain ⟨bgc0, bgc1, bgc2⟩ := three Kg.out
  obtain ⟨bkc0, bkc1, bkc2, bkc3, bkc4⟩ := five Kk.out
  obtain ⟨bpc0, bpc1⟩ := twob Kp.out
  go_wp2_with (fail)
  refine (SI.out _).mono ?_
  rintro e w2 ⟨rfl, hb⟩
  replace Kg := Lib.hid (Kg.out.below hb Kg.out.lt)
  replace Kk := Lib.hid (Kk.out.below hb Kk.out.lt)
  replace Kp := Lib.hid (Kp.out.below hb Kp.out.lt)
  replace Kr := Lib.hid (Kr.out.below hb Kr.out.lt)
  replace B := Lib.hid (B.out.trans (hb.mono B.out.size))
  clear bgc0 bgc1 bgc2 bkc0 bkc1 bkc2 bkc3 bkc4 bpc0 bpc1
  clear hb
  obtain ⟨bgc0, bgc1, bgc2⟩ := three Kg.out
  obtain ⟨bkc0, bkc1, bkc2, bkc3, bkc4⟩ := five Kk.out
  obtain ⟨bpc0, bpc1⟩ := twob Kp.out
  go_wp2_with (fail)
  refine (PE.out _).mono ?_
  rintro e w3 ⟨rfl, hb⟩
  replace Kg := Lib.hid (Kg.out.below hb Kg.out.lt)
  replace Kk := Lib.hid (Kk.out.below hb Kk.out.lt)
  replace Kp := Lib.hid (Kp.out.below hb Kp.out.lt)
  replace Kr := Lib.hid (Kr.out.below hb Kr.out.lt)
  replace B := Lib.hid (B.out.trans (hb.mono B.out.size))
  clear bgc0 bgc1 bgc2 bkc0 bkc1 bkc2 bkc3 bkc4 bpc0 bpc1
  clear hb
  obtain ⟨bgc0, bgc1, bgc2⟩ := three Kg.out
  obtain ⟨bkc0, bkc1, bkc2, bkc3, bkc4⟩ := five Kk.out
  obtain ⟨bpc0, bpc1⟩ := twob Kp.out
  go_wp2_with (fail)
  refine (KV.out _).mono ?_
  rintro e w4 ⟨rfl, hb⟩
  replace Kg := Lib.hid (Kg.out.below hb Kg.out.lt)
  replace Kk := Lib.hid (Kk.out.below hb Kk.out.lt)
  replace Kp := Lib.hid (Kp.out.below hb Kp.out.lt)
  replace Kr := Lib.hid (Kr.out.below hb Kr.out.lt)
  replace B := Lib.hid (B.out.trans (hb.mono B.out.size))
  clear bgc0 bgc1 bgc2 bkc0 bkc1 bkc2 bkc3 bkc4 bpc0 bpc1
  clear hb
  obtain ⟨bgc0, bgc1, bgc2⟩ := three Kg.out
  obtain ⟨bkc0, bkc1, bkc2, bkc3, bkc4⟩ := five Kk.out
  obtain ⟨bpc0, bpc1⟩ := twob Kp.out
  go_wp2_with (fail)
  refine (FI.out _ (HP.out.mono B.out)).mono ?_
  rintro e w5 ⟨rfl, hb⟩
  replace Kg := Lib.hid (Kg.out.below hb Kg.out.lt)
  replace Kk := Lib.hid (Kk.out.below hb Kk.out.lt)
  replace Kp := Lib.hid (Kp.out.below hb Kp.out.lt)
  replace Kr := Lib.hid (Kr.out.below hb Kr.out.lt)
  replace B := Lib.hid (B.out.trans (hb.mono B.out.size))
  clear bgc0 bgc1 bgc2 bkc0 bkc1 bkc2 bkc3 bkc4 bpc0 bpc1
  clear hb
  obtain ⟨bgc0, bgc1, bgc2⟩ := three Kg.out
  obtain ⟨bkc0, bkc1, bkc2, bkc3, bkc4⟩ := five Kk.out
  obtain ⟨bpc0, bpc1⟩ := twob Kp.out
  clear bgc0 bgc1 bgc2 bkc0 bkc1 bkc2 bkc3 bkc4 bpc0 bpc1
  obtain ⟨bgc0, bgc1, bgc2⟩ := three Kg.out
  obtain ⟨bkc0, bkc1, bkc2, bkc3, bkc4⟩ := five Kk.out
  obtain ⟨bpc0, bpc1⟩ := twob Kp.out
  obtain ⟨gx, hgx⟩ : ∃ G, w5.heap.size = G := ⟨_, rfl⟩
  have Kx := Lib.hid (show Blk (w5.alloc (.cells #[.int .i64 x1, .int .i64 x2, .int .i64 x3] 88)) gx 88 #[.int .i64 x1, .int .i64 x2, .int .i64 x3] from Blk.new' w5 _ _ _ hgx rfl)
  have Ngx := Lib.hid (show G < gx from by rw [← hgx]; exact Kg.out.lt)
  replace Kg := Lib.hid (Kg.out.alloc (.cells #[.int .i64 x1, .int .i64 x2, .int .i64 x3] 88))
  have Nkx := Lib.hid (show G + 1 < gx from by rw [← hgx]; exact Kk.out.lt)
  replace Kk := Lib.hid (Kk.out.alloc (.cells #[.int .i64 x1, .int .i64 x2, .int .i64 x3] 88))
  have Npx := Lib.hid (show G + 1 + 1 < gx from by rw [← hgx]; exact Kp.out.lt)
  replace Kp := Lib.hid (Kp.out.alloc (.cells #[.int .i64 x1, .int .i64 x2, .int .i64 x3] 88))
  have Nrx := Lib.hid (show G + 1 + 1 + 1 < gx from by rw [← hgx]; exact Kr.out.lt)
  replace Kr := Lib.hid (Kr.out.alloc (.cells #[.int .i64 x1, .int .i64 x2, .int .i64 x3] 88))
  have Lx := Lib.hid (show w.heap.size ≤ gx from by rw [← hgx]; exact B.out.size)
  replace B := Lib.hid (B.out.alloc B.out.size (.cells #[.int .i64 x1, .int .i64 x2, .int .i64 x3] 88))
  go_upto_region 4 with (fail)
  try rw [hgx]
  generalize hw : w5.alloc (.cells #[.int .i64 x1, .int .i64 x2, .int .i64 x3] 88) = w6 at Kg Kk Kp Kr Kx  B ⊢
  clear bgc0 bgc1 bgc2 bkc0 bkc1 bkc2 bkc3 bkc4 bpc0 bpc1
  clear hw hgx
  obtain ⟨bgc0, bgc1, bgc2⟩ := three Kg.out
  obtain ⟨bkc0, bkc1, bkc2, bkc3, bkc4⟩ := five Kk.out
  obtain ⟨bpc0, bpc1⟩ := twob Kp.out
  obtain ⟨bxc0, bxc1, bxc2⟩ := three Kx.out
  go_wp2_with (fail)
  refine (C5.out _ (HLA.out.mono B.out)).mono ?_
  rintro e w7 ⟨rfl, hb⟩
  replace Kg := Lib.hid (Kg.out.below hb Kg.out.lt)
  replace Kk := Lib.hid (Kk.out.below hb Kk.out.lt)
  replace Kp := Lib.hid (Kp.out.below hb Kp.out.lt)
  replace Kr := Lib.hid (Kr.out.below hb Kr.out.lt)
  replace Kx := Lib.hid (Kx.out.below hb Kx.out.lt)
  replace B := Lib.hid (B.out.trans (hb.mono B.out.size))
  clear bgc0 bgc1 bgc2 bkc0 bkc1 bkc2 bkc3 bkc4 bpc0 bpc1 bxc0 bxc1 bxc2
  clear hb
  obtain ⟨bgc0, bgc1, bgc2⟩ := three Kg.out
  obtain ⟨bkc0, bkc1, bkc2, bkc3, bkc4⟩ := five Kk.out
  obtain ⟨bpc0, bpc1⟩ := twob Kp.out
  obtain ⟨bxc0, bxc1, bxc2⟩ := three Kx.out
  clear bgc0 bgc1 bgc2 bkc0 bkc1 bkc2 bkc3 bkc4 bpc0 bpc1 bxc0 bxc1 bxc2
  obtain ⟨gl, hgl⟩ : ∃ g, w7.heap.size = g := ⟨_, rfl⟩
  have KZ := Lib.hid (show Blk (w7.alloc (.cells #[.int .i64 0, .int .i64 0, .int .i64 0, .int .i64 0, .int .u8 0, .int .u8 0, .int .u8 0, .int .u8 0, .int .u8 0, .int .u8 0, .int .u8 0, .int .u8 0, .int .u8 0, .int .u8 0, .int .u8 0, .int .u8 0, .int .u8 0, .int .u8 0, .int .u8 0, .int .u8 0] 38)) gl 38 leaseZ from Blk.new' w7 _ _ _ hgl rfl)
  have Kl := Lib.hid (show Blk ((w7.alloc (.cells #[.int .i64 0, .int .i64 0, .int .i64 0, .int .i64 0, .int .u8 0, .int .u8 0, .int .u8 0, .int .u8 0, .int .u8 0, .int .u8 0, .int .u8 0, .int .u8 0, .int .u8 0, .int .u8 0, .int .u8 0, .int .u8 0, .int .u8 0, .int .u8 0, .int .u8 0, .int .u8 0] 38)).setRow gl LC) gl 38 LC from KZ.out.row_ _)
  have Nlg := Lib.hid (show G < gl from by rw [← hgl]; exact Kg.out.lt)
  replace Kg := Lib.hid (show Blk ((w7.alloc (.cells #[.int .i64 0, .int .i64 0, .int .i64 0, .int .i64 0, .int .u8 0, .int .u8 0, .int .u8 0, .int .u8 0, .int .u8 0, .int .u8 0, .int .u8 0, .int .u8 0, .int .u8 0, .int .u8 0, .int .u8 0, .int .u8 0, .int .u8 0, .int .u8 0, .int .u8 0, .int .u8 0] 38)).setRow gl LC) (G) 24 #[.int .i64 la, .int .i64 mo, .slice a N c] from (Kg.out.alloc _).rowfar (by have := Nlg.out; omega) _)
  have Nlk := Lib.hid (show G + 1 < gl from by rw [← hgl]; exact Kk.out.lt)
  replace Kk := Lib.hid (show Blk ((w7.alloc (.cells #[.int .i64 0, .int .i64 0, .int .i64 0, .int .i64 0, .int .u8 0, .int .u8 0, .int .u8 0, .int .u8 0, .int .u8 0, .int .u8 0, .int .u8 0, .int .u8 0, .int .u8 0, .int .u8 0, .int .u8 0, .int .u8 0, .int .u8 0, .int .u8 0, .int .u8 0, .int .u8 0] 38)).setRow gl LC) (G + 1) 26 #[.int .i64 1, .int .i64 k2, .string k3, .int .i64 k4, .int .i64 k5] from (Kk.out.alloc _).rowfar (by have := Nlk.out; omega) _)
  have Nlp := Lib.hid (show G + 1 + 1 < gl from by rw [← hgl]; exact Kp.out.lt)
  replace Kp := Lib.hid (show Blk ((w7.alloc (.cells #[.int .i64 0, .int .i64 0, .int .i64 0, .int .i64 0, .int .u8 0, .int .u8 0, .int .u8 0, .int .u8 0, .int .u8 0, .int .u8 0, .int .u8 0, .int .u8 0, .int .u8 0, .int .u8 0, .int .u8 0, .int .u8 0, .int .u8 0, .int .u8 0, .int .u8 0, .int .u8 0] 38)).setRow gl LC) (G + 1 + 1) 28 #[.int .i64 lo, .int .i64 hi] from (Kp.out.alloc _).rowfar (by have := Nlp.out; omega) _)
  have Nlr := Lib.hid (show G + 1 + 1 + 1 < gl from by rw [← hgl]; exact Kr.out.lt)
  replace Kr := Lib.hid (show Blk ((w7.alloc (.cells #[.int .i64 0, .int .i64 0, .int .i64 0, .int .i64 0, .int .u8 0, .int .u8 0, .int .u8 0, .int .u8 0, .int .u8 0, .int .u8 0, .int .u8 0, .int .u8 0, .int .u8 0, .int .u8 0, .int .u8 0, .int .u8 0, .int .u8 0, .int .u8 0, .int .u8 0, .int .u8 0] 38)).setRow gl LC) (G + 1 + 1 + 1) 52 ((grantedE 0)) from (Kr.out.alloc _).rowfar (by have := Nlr.out; omega) _)
  have Nlx := Lib.hid (show gx < gl from by rw [← hgl]; exact Kx.out.lt)
  replace Kx := Lib.hid (show Blk ((w7.alloc (.cells #[.int .i64 0, .int .i64 0, .int .i64 0, .int .i64 0, .int .u8 0, .int .u8 0, .int .u8 0, .int .u8 0, .int .u8 0, .int .u8 0, .int .u8 0, .int .u8 0, .int .u8 0, .int .u8 0, .int .u8 0, .int .u8 0, .int .u8 0, .int .u8 0, .int .u8 0, .int .u8 0] 38)).setRow gl LC) (gx) 88 #[.int .i64 x1, .int .i64 x2, .int .i64 x3] from (Kx.out.alloc _).rowfar (by have := Nlx.out; omega) _)
  have Ll := Lib.hid (show w.heap.size ≤ gl from by rw [← hgl]; exact B.out.size)
  replace B := Lib.hid (show Below w.heap.size w ((w7.alloc (.cells #[.int .i64 0, .int .i64 0, .int .i64 0, .int .i64 0, .int .u8 0, .int .u8 0, .int .u8 0, .int .u8 0, .int .u8 0, .int .u8 0, .int .u8 0, .int .u8 0, .int .u8 0, .int .u8 0, .int .u8 0, .int .u8 0, .int .u8 0, .int .u8 0, .int .u8 0, .int .u8 0] 38)).setRow gl LC) from below_setRow (B.out.alloc B.out.size _) Ll.out _)
  try rw [hgl]
  go_upto_region 10 with (first | (with_reducible refine Hs.wpList_store_blk rfl 38 _ _ rfl gl 38 leaseZ LC rfl rfl (Blk.hs KZ.out) BNl.out.info (big_leaseZ.same BNl.out) BNl.out.one rfl ?_))
  try rw [hgl]
  generalize hw : ((w7.alloc (.cells #[.int .i64 0, .int .i64 0, .int .i64 0, .int .i64 0, .int .u8 0, .int .u8 0, .int .u8 0, .int .u8 0, .int .u8 0, .int .u8 0, .int .u8 0, .int .u8 0, .int .u8 0, .int .u8 0, .int .u8 0, .int .u8 0, .int .u8 0, .int .u8 0, .int .u8 0, .int .u8 0] 38)).setRow gl LC) = w8 at Kg Kk Kp Kr Kx Kl B ⊢
  clear hw KZ hgl
  have BGl := BNl
  have Ngl := Nlg
  have Nkl := Nlk
  have Npl := Nlp
  have Nrl := Nlr
  have Nxl := Nlx
  clear Nlg Nlk Nlp Nlr Nlx
  obtain ⟨bgc0, bgc1, bgc2⟩ := three Kg.out
  obtain ⟨bkc0, bkc1, bkc2, bkc3, bkc4⟩ := five Kk.out
  obtain ⟨bpc0, bpc1⟩ := twob Kp.out
  obtain ⟨bxc0, bxc1, bxc2⟩ := three Kx.out
  go_wp2_with (first | (with_reducible refine Hs.wpList_store_blk rfl 52 _ _ rfl (G + 1 + 1 + 1) 52 _ (GC a N c) rfl rfl (Blk.hs Kr.out) (BNg.out a N c).info ((big_grantedE 0).same (BNg.out a N c)) (BNg.out a N c).one rfl ?_) | (with_reducible refine Hs.wpList_load_all rfl 38 _ rfl (gl) rfl 38 (LC) _ (Blk.hs Kl.out) Tryd.underlying38 BGl.out.info ?_) | (with_reducible refine wpList_build_run rfl 52 _ rfl #[(0, .agg #[.int .i64 la, .int .i64 mo, .slice a N c]), (1, .agg LC)] (by kernel_rfl) _ (BF.out a N c _) ?_))
  have BZ := below_setRow B.out (show w.heap.size ≤ G + 1 + 1 + 1 by have := HG.out; omega) (GC a N c)
  refine bodyPost_ret (v := .agg (GC a N c)) (results_cell_row rfl _ _ _ 52 _ (0, 0) _ rfl (Kr.out.row_ _) Tryd.underlying52 rfl (BNg.out a N c).info) rfl ?_
  exact ⟨rfl, BZ⟩
set_option maxRecDepth 100000 in
set_option maxHeartbeats 4000000 in
theorem rgrant_put (la mo : Int) (a : Option Addr) (c : Nat) (l : List Gr) (k2 : Int) (k3 : ByteArray) (k4 k5 n lo hi len : Int) (w : World) (hp : GrA w a l) (hm : l.length ≤ 10000) (ok : GsOk la mo l) (hs : 0 ≤ n ∧ n < 64) (hq : perB lo hi = true) (h1 : ¬ len < 1) (h2 : ¬ mo < len) (hk : keyB (1, k2, k3, k4, k5) = true) (h4 : ¬ (rowL n l).2.1 < la) (h5 : ¬ 1099511627776 < lo + len) (hla : Hs.LaidK w) (h6 : ¬ lo + len ≤ (rowL n l).2.2) :
    Calls Tryd.prog 17 #[.agg #[.int .i64 la, .int .i64 mo, .slice a l.length c], .agg #[.int .i64 1, .int .i64 k2, .string k3, .int .i64 k4, .int .i64 k5], .int .i64 n, per lo hi, .int .i64 len] w fun e w' => (∃ a' c', e = .returned (.agg (grantedC la mo a' (withL (n, (rowL n l).2.1, lo + len) l).length c' n la (lo + len) k2 (sealD k2 k3 n la (lo + len)))) ∧ GrA w' a' (withL (n, (rowL n l).2.1, lo + len) l)) ∧ Below w.heap.size w w' := by
  have HP := Lib.hid hp
  have VA := Lib.hid (fun (X : World) (h : GrA X a l) => rvalid_any la mo a c l X h (by omega))
  have ev : validB la mo l = true := decide_eq_true ok
  rw [ev] at VA
  have SI := Lib.hid (fun (X : World) => rsite_yes hs X)
  have PE := Lib.hid (fun (X : World) => period_ref lo hi X)
  rw [hq] at PE
  have t1 : decide (len < 1) = false := decide_eq_false h1
  have t2 : decide (mo < len) = false := decide_eq_false h2
  have KV := Lib.hid (fun (X : World) => rvalid_any_key (1, k2, k3, k4, k5) X)
  rw [hk] at KV
  simp only [encR] at KV
  have FI := Lib.hid (fun (X : World) (h : GrA X a l) => find_any la mo a c l n X h ok.ord (by omega))
  have RS := Lib.hid (rowL_site n l)
  have RK := Lib.hid (rowL_ok ok hs)
  skip
  have PW := Lib.hid (fun (q : (rowL n l).2.2 < lo + len) => show putL l (n, (rowL n l).2.1, lo + len) = withL (n, (rowL n l).2.1, lo + len) l from put_with ok.ord _ (fun z => by have := (rowL_ok ok hs).2.2.1; injection z with z1 z2; injection z2 with z3 z4; omega))
  have LW : IntKind.i64.wrap (lo + len) = lo + len := by have := of_decide_eq_true hq; have := ok.mo1; rw [IntKind.wrap_i64]; omega
  have C5 := Lib.hid (fun (X : World) (h : Hs.LaidK X) => show Calls Tryd.prog 45 #[.agg #[.int .i64 1, .int .i64 k2, .string k3, .int .i64 k4, .int .i64 k5], .agg #[.int .i64 n, .int .i64 la, .int .i64 (lo + len), .int .i64 0, .int .u8 0, .int .u8 0, .int .u8 0, .int .u8 0, .int .u8 0, .int .u8 0, .int .u8 0, .int .u8 0, .int .u8 0, .int .u8 0, .int .u8 0, .int .u8 0, .int .u8 0, .int .u8 0, .int .u8 0, .int .u8 0]] X fun e w' => e = .returned (.agg (leaseC n la (lo + len) k2 (sealD k2 k3 n la (lo + len)))) ∧ Below X.heap.size X w' from rsealLease_any (1, k2, k3, k4, k5) n la (lo + len) 0 (List.replicate 16 0) X rfl (by unfold i64Ok; omega) (by have := ok.la0; unfold i64Ok; omega) (by have := of_decide_eq_true hq; have := ok.mo1; unfold i64Ok; omega) (by have := (of_decide_eq_true hk).2.1; unfold i64Ok; omega) (by have := (of_decide_eq_true hk).2.2.1; omega) h)
  have HLA := Lib.hid hla
  have hDl : (sealD k2 k3 n la (lo + len)).length = 16 := sealD_len _ _ _ _ _
  have BF := Lib.hid (fun (a : Option Addr) (N c : Nat) (W : World) => build_granted la mo a N c n la (lo + len) k2 hDl W)
  have BNg := Lib.hid (fun (a : Option Addr) (N c : Nat) => big_grantedC la mo a N c n la (lo + len) k2 hDl)
  have BNl := Lib.hid (big_lease (s := n) (e := la) (u := lo + len) (r := k2) hDl)
  obtain ⟨GC, hGC⟩ : ∃ g : Option Addr → Nat → Nat → Array Value, (fun a N c => grantedC la mo a N c n la (lo + len) k2 (sealD k2 k3 n la (lo + len))) = g := ⟨_, rfl⟩
  have eG : ∀ a N c, grantedC la mo a N c n la (lo + len) k2 (sealD k2 k3 n la (lo + len)) = GC a N c := fun a N c => by rw [← hGC]
  simp only [eG] at BF BNg ⊢
  obtain ⟨LC, hLC⟩ : ∃ C, leaseC n la (lo + len) k2 (sealD k2 k3 n la (lo + len)) = C := ⟨_, rfl⟩
  simp only [hLC] at C5 BF BNl
  clear hGC eG hLC hDl hla
  obtain ⟨⟨x1, x2, x3⟩, hx⟩ : ∃ x, rowL n l = x := ⟨_, rfl⟩
  rw [hx] at FI RS RK h4 h6 PW ⊢
  have e1 : x1 = n := RS.out
  subst e1
  simp only [encG] at FI
  clear hx RS
  have h4b : ¬ x2 < la := h4
  have t4 : decide (x2 < la) = false := decide_eq_false h4b
  have t5 : decide (1099511627776 < lo + len) = false := decide_eq_false h5
  have h6b : ¬ lo + len ≤ x3 := h6
  have t6 : decide (lo + len ≤ x3) = false := decide_eq_false h6b
  replace PW := Lib.hid (PW.out (Int.not_le.1 h6b))
  simp only at PW ⊢
  have PT := Lib.hid (fun (X : World) (h : GrA X a l) => put_any la mo a c l (x1, x2, lo + len) X h hm)
  rw [PW.out] at PT
  simp only [encG] at PT
  obtain ⟨L2, hL2⟩ : ∃ L, withL (x1, x2, lo + len) l = L := ⟨_, rfl⟩
  rw [hL2]
  simp only [hL2] at PT
  clear hL2 PW
  obtain ⟨u, hu⟩ : ∃ u, lo + len = u := ⟨_, rfl⟩
  rw [hu] at LW t5 t6
  simp only [hu] at C5 PT
  have HU := Lib.hid hu
  clear hu
  obtain ⟨N, hN⟩ : ∃ N, l.length = N := ⟨_, rfl⟩
  have HE := Lib.hid hN
  simp only [hN] at VA FI PT
  rw [hN]
  clear hN hp hm ev ok hs hq h1 h2 hk h4 h4b h5 h6 h6b
  obtain ⟨G, hG⟩ : ∃ G, w.heap.size = G := ⟨_, rfl⟩
  have HG := Lib.hid hG
  have BGr := Lib.hid (show BigR 52 ((grantedE 0)) from big_grantedE 0)
  obtain ⟨w0, hw0, Kg, Kk, Kp, Kr, B⟩ : ∃ X, ((((w.alloc (.cells #[.int .i64 la, .int .i64 mo, .slice a N c] 24)).alloc (.cells #[.int .i64 1, .int .i64 k2, .string k3, .int .i64 k4, .int .i64 k5] 26)).alloc (.cells #[.int .i64 lo, .int .i64 hi] 28)).alloc (.cells #[.int .i64 0, .int .i64 0, .slice none 0 0, .int .i64 0, .int .i64 0, .int .i64 0, .int .i64 0, .int .u8 0, .int .u8 0, .int .u8 0, .int .u8 0, .int .u8 0, .int .u8 0, .int .u8 0, .int .u8 0, .int .u8 0, .int .u8 0, .int .u8 0, .int .u8 0, .int .u8 0, .int .u8 0, .int .u8 0, .int .u8 0, .int .i64 0] 52)) = X ∧ Hid (Blk X (G) 24 #[.int .i64 la, .int .i64 mo, .slice a N c]) ∧ Hid (Blk X (G + 1) 26 #[.int .i64 1, .int .i64 k2, .string k3, .int .i64 k4, .int .i64 k5]) ∧ Hid (Blk X (G + 1 + 1) 28 #[.int .i64 lo, .int .i64 hi]) ∧ Hid (Blk X (G + 1 + 1 + 1) 52 ((grantedE 0))) ∧ Hid (Below w.heap.size w X) := ⟨_, rfl, Lib.hid ((((Blk.new' _ _ _ _ hG rfl).alloc _).alloc _).alloc _), Lib.hid (((Blk.new' _ _ _ _ (by rw [World.size_alloc, hG]) rfl).alloc _).alloc _), Lib.hid ((Blk.new' _ _ _ _ (by rw [World.size_alloc, World.size_alloc, hG]) rfl).alloc _), Lib.hid (Blk.new' _ _ _ _ (by rw [World.size_alloc, World.size_alloc, World.size_alloc, hG]) rfl), Lib.hid (by (repeat' (first | (with_reducible exact Below.refl _ _) | (with_reducible assumption) | (with_reducible refine Below.alloc ?_ ?_ _) | (with_reducible refine Below.drew ?_) | (with_reducible refine below_dn ?_) | (with_reducible refine Below.setCell ?_ ?_ _) | (with_reducible exact Nat.le_refl _) | omega | (simp only [World.size_alloc, World.size_setCell, World.size_drew]; omega) | (simp; omega) | (simp; done))))⟩
  go_enter Tryd.func17, Tryd.ntmps17
  go_upto_region 1 with (fail)
  try rw [hG]
  try rw [hw0]
  clear hw0 hG
  obtain ⟨bgc0, bgc1, bgc2⟩ := three Kg.out
  obtain ⟨bkc0, bkc1, bkc2, bkc3, bkc4⟩ := five Kk.out
  obtain ⟨bpc0, bpc1⟩ := twob Kp.out
  have q9 := HU.out
  go_wp2_with (fail)
  refine (VA.out _ (HP.out.mono B.out)).mono ?_
  rintro e w1 ⟨rfl, hb⟩
  replace Kg := Lib.hid (Kg.out.below hb Kg.out.lt)
  replace Kk := Lib.hid (Kk.out.below hb Kk.out.lt)
  replace Kp := Lib.hid (Kp.out.below hb Kp.out.lt)
  replace Kr := Lib.hid (Kr.out.below hb Kr.out.lt)
  replace B := Lib.hid (B.out.trans (hb.mono B.out.size))
  clear bgc0 bgc1 bgc2 bkc0 bkc1 bkc2 bkc3 bkc4 bpc0 bpc1
  clear hb
  obtain ⟨bgc0, bgc1, bgc2⟩ := three Kg.out
  obtain ⟨bkc0, bkc1, bkc2, bkc3, bkc4⟩ := five Kk.out
  obtain ⟨bpc0, bpc1⟩ := twob Kp.out
  go_wp2_with (fail)
  refine (SI.out _).mono ?_
  rintro e w2 ⟨rfl, hb⟩
  replace Kg := Lib.hid (Kg.out.below hb Kg.out.lt)
  replace Kk := Lib.hid (Kk.out.below hb Kk.out.lt)
  replace Kp := Lib.hid (Kp.out.below hb Kp.out.lt)
  replace Kr := Lib.hid (Kr.out.below hb Kr.out.lt)
  replace B := Lib.hid (B.out.trans (hb.mono B.out.size))
  clear bgc0 bgc1 bgc2 bkc0 bkc1 bkc2 bkc3 bkc4 bpc0 bpc1
  clear hb
  obtain ⟨bgc0, bgc1, bgc2⟩ := three Kg.out
  obtain ⟨bkc0, bkc1, bkc2, bkc3, bkc4⟩ := five Kk.out
  obtain ⟨bpc0, bpc1⟩ := twob Kp.out
  go_wp2_with (fail)
  refine (PE.out _).mono ?_
  rintro e w3 ⟨rfl, hb⟩
  replace Kg := Lib.hid (Kg.out.below hb Kg.out.lt)
  replace Kk := Lib.hid (Kk.out.below hb Kk.out.lt)
  replace Kp := Lib.hid (Kp.out.below hb Kp.out.lt)
  replace Kr := Lib.hid (Kr.out.below hb Kr.out.lt)
  replace B := Lib.hid (B.out.trans (hb.mono B.out.size))
  clear bgc0 bgc1 bgc2 bkc0 bkc1 bkc2 bkc3 bkc4 bpc0 bpc1
  clear hb
  obtain ⟨bgc0, bgc1, bgc2⟩ := three Kg.out
  obtain ⟨bkc0, bkc1, bkc2, bkc3, bkc4⟩ := five Kk.out
  obtain ⟨bpc0, bpc1⟩ := twob Kp.out
  go_wp2_with (fail)
  refine (KV.out _).mono ?_
  rintro e w4 ⟨rfl, hb⟩
  replace Kg := Lib.hid (Kg.out.below hb Kg.out.lt)
  replace Kk := Lib.hid (Kk.out.below hb Kk.out.lt)
  replace Kp := Lib.hid (Kp.out.below hb Kp.out.lt)
  replace Kr := Lib.hid (Kr.out.below hb Kr.out.lt)
  replace B := Lib.hid (B.out.trans (hb.mono B.out.size))
  clear bgc0 bgc1 bgc2 bkc0 bkc1 bkc2 bkc3 bkc4 bpc0 bpc1
  clear hb
  obtain ⟨bgc0, bgc1, bgc2⟩ := three Kg.out
  obtain ⟨bkc0, bkc1, bkc2, bkc3, bkc4⟩ := five Kk.out
  obtain ⟨bpc0, bpc1⟩ := twob Kp.out
  go_wp2_with (fail)
  refine (FI.out _ (HP.out.mono B.out)).mono ?_
  rintro e w5 ⟨rfl, hb⟩
  replace Kg := Lib.hid (Kg.out.below hb Kg.out.lt)
  replace Kk := Lib.hid (Kk.out.below hb Kk.out.lt)
  replace Kp := Lib.hid (Kp.out.below hb Kp.out.lt)
  replace Kr := Lib.hid (Kr.out.below hb Kr.out.lt)
  replace B := Lib.hid (B.out.trans (hb.mono B.out.size))
  clear bgc0 bgc1 bgc2 bkc0 bkc1 bkc2 bkc3 bkc4 bpc0 bpc1
  clear hb
  obtain ⟨bgc0, bgc1, bgc2⟩ := three Kg.out
  obtain ⟨bkc0, bkc1, bkc2, bkc3, bkc4⟩ := five Kk.out
  obtain ⟨bpc0, bpc1⟩ := twob Kp.out
  clear bgc0 bgc1 bgc2 bkc0 bkc1 bkc2 bkc3 bkc4 bpc0 bpc1
  obtain ⟨bgc0, bgc1, bgc2⟩ := three Kg.out
  obtain ⟨bkc0, bkc1, bkc2, bkc3, bkc4⟩ := five Kk.out
  obtain ⟨bpc0, bpc1⟩ := twob Kp.out
  obtain ⟨gx, hgx⟩ : ∃ G, w5.heap.size = G := ⟨_, rfl⟩
  have Kx := Lib.hid (show Blk (w5.alloc (.cells #[.int .i64 x1, .int .i64 x2, .int .i64 x3] 88)) gx 88 #[.int .i64 x1, .int .i64 x2, .int .i64 x3] from Blk.new' w5 _ _ _ hgx rfl)
  have Ngx := Lib.hid (show G < gx from by rw [← hgx]; exact Kg.out.lt)
  replace Kg := Lib.hid (Kg.out.alloc (.cells #[.int .i64 x1, .int .i64 x2, .int .i64 x3] 88))
  have Nkx := Lib.hid (show G + 1 < gx from by rw [← hgx]; exact Kk.out.lt)
  replace Kk := Lib.hid (Kk.out.alloc (.cells #[.int .i64 x1, .int .i64 x2, .int .i64 x3] 88))
  have Npx := Lib.hid (show G + 1 + 1 < gx from by rw [← hgx]; exact Kp.out.lt)
  replace Kp := Lib.hid (Kp.out.alloc (.cells #[.int .i64 x1, .int .i64 x2, .int .i64 x3] 88))
  have Nrx := Lib.hid (show G + 1 + 1 + 1 < gx from by rw [← hgx]; exact Kr.out.lt)
  replace Kr := Lib.hid (Kr.out.alloc (.cells #[.int .i64 x1, .int .i64 x2, .int .i64 x3] 88))
  have Lx := Lib.hid (show w.heap.size ≤ gx from by rw [← hgx]; exact B.out.size)
  replace B := Lib.hid (B.out.alloc B.out.size (.cells #[.int .i64 x1, .int .i64 x2, .int .i64 x3] 88))
  go_upto_region 4 with (fail)
  try rw [hgx]
  generalize hw : w5.alloc (.cells #[.int .i64 x1, .int .i64 x2, .int .i64 x3] 88) = w6 at Kg Kk Kp Kr Kx  B ⊢
  clear bgc0 bgc1 bgc2 bkc0 bkc1 bkc2 bkc3 bkc4 bpc0 bpc1
  clear hw hgx
  obtain ⟨bgc0, bgc1, bgc2⟩ := three Kg.out
  obtain ⟨bkc0, bkc1, bkc2, bkc3, bkc4⟩ := five Kk.out
  obtain ⟨bpc0, bpc1⟩ := twob Kp.out
  obtain ⟨bxc0, bxc1, bxc2⟩ := three Kx.out
  go_wp2_with (fail)
  refine (C5.out _ (HLA.out.mono B.out)).mono ?_
  rintro e w7 ⟨rfl, hb⟩
  replace Kg := Lib.hid (Kg.out.below hb Kg.out.lt)
  replace Kk := Lib.hid (Kk.out.below hb Kk.out.lt)
  replace Kp := Lib.hid (Kp.out.below hb Kp.out.lt)
  replace Kr := Lib.hid (Kr.out.below hb Kr.out.lt)
  replace Kx := Lib.hid (Kx.out.below hb Kx.out.lt)
  replace B := Lib.hid (B.out.trans (hb.mono B.out.size))
  clear bgc0 bgc1 bgc2 bkc0 bkc1 bkc2 bkc3 bkc4 bpc0 bpc1 bxc0 bxc1 bxc2
  clear hb
  obtain ⟨bgc0, bgc1, bgc2⟩ := three Kg.out
  obtain ⟨bkc0, bkc1, bkc2, bkc3, bkc4⟩ := five Kk.out
  obtain ⟨bpc0, bpc1⟩ := twob Kp.out
  obtain ⟨bxc0, bxc1, bxc2⟩ := three Kx.out
  clear bgc0 bgc1 bgc2 bkc0 bkc1 bkc2 bkc3 bkc4 bpc0 bpc1 bxc0 bxc1 bxc2
  obtain ⟨gl, hgl⟩ : ∃ g, w7.heap.size = g := ⟨_, rfl⟩
  have KZ := Lib.hid (show Blk (w7.alloc (.cells #[.int .i64 0, .int .i64 0, .int .i64 0, .int .i64 0, .int .u8 0, .int .u8 0, .int .u8 0, .int .u8 0, .int .u8 0, .int .u8 0, .int .u8 0, .int .u8 0, .int .u8 0, .int .u8 0, .int .u8 0, .int .u8 0, .int .u8 0, .int .u8 0, .int .u8 0, .int .u8 0] 38)) gl 38 leaseZ from Blk.new' w7 _ _ _ hgl rfl)
  have Kl := Lib.hid (show Blk ((w7.alloc (.cells #[.int .i64 0, .int .i64 0, .int .i64 0, .int .i64 0, .int .u8 0, .int .u8 0, .int .u8 0, .int .u8 0, .int .u8 0, .int .u8 0, .int .u8 0, .int .u8 0, .int .u8 0, .int .u8 0, .int .u8 0, .int .u8 0, .int .u8 0, .int .u8 0, .int .u8 0, .int .u8 0] 38)).setRow gl LC) gl 38 LC from KZ.out.row_ _)
  have Nlg := Lib.hid (show G < gl from by rw [← hgl]; exact Kg.out.lt)
  replace Kg := Lib.hid (show Blk ((w7.alloc (.cells #[.int .i64 0, .int .i64 0, .int .i64 0, .int .i64 0, .int .u8 0, .int .u8 0, .int .u8 0, .int .u8 0, .int .u8 0, .int .u8 0, .int .u8 0, .int .u8 0, .int .u8 0, .int .u8 0, .int .u8 0, .int .u8 0, .int .u8 0, .int .u8 0, .int .u8 0, .int .u8 0] 38)).setRow gl LC) (G) 24 #[.int .i64 la, .int .i64 mo, .slice a N c] from (Kg.out.alloc _).rowfar (by have := Nlg.out; omega) _)
  have Nlk := Lib.hid (show G + 1 < gl from by rw [← hgl]; exact Kk.out.lt)
  replace Kk := Lib.hid (show Blk ((w7.alloc (.cells #[.int .i64 0, .int .i64 0, .int .i64 0, .int .i64 0, .int .u8 0, .int .u8 0, .int .u8 0, .int .u8 0, .int .u8 0, .int .u8 0, .int .u8 0, .int .u8 0, .int .u8 0, .int .u8 0, .int .u8 0, .int .u8 0, .int .u8 0, .int .u8 0, .int .u8 0, .int .u8 0] 38)).setRow gl LC) (G + 1) 26 #[.int .i64 1, .int .i64 k2, .string k3, .int .i64 k4, .int .i64 k5] from (Kk.out.alloc _).rowfar (by have := Nlk.out; omega) _)
  have Nlp := Lib.hid (show G + 1 + 1 < gl from by rw [← hgl]; exact Kp.out.lt)
  replace Kp := Lib.hid (show Blk ((w7.alloc (.cells #[.int .i64 0, .int .i64 0, .int .i64 0, .int .i64 0, .int .u8 0, .int .u8 0, .int .u8 0, .int .u8 0, .int .u8 0, .int .u8 0, .int .u8 0, .int .u8 0, .int .u8 0, .int .u8 0, .int .u8 0, .int .u8 0, .int .u8 0, .int .u8 0, .int .u8 0, .int .u8 0] 38)).setRow gl LC) (G + 1 + 1) 28 #[.int .i64 lo, .int .i64 hi] from (Kp.out.alloc _).rowfar (by have := Nlp.out; omega) _)
  have Nlr := Lib.hid (show G + 1 + 1 + 1 < gl from by rw [← hgl]; exact Kr.out.lt)
  replace Kr := Lib.hid (show Blk ((w7.alloc (.cells #[.int .i64 0, .int .i64 0, .int .i64 0, .int .i64 0, .int .u8 0, .int .u8 0, .int .u8 0, .int .u8 0, .int .u8 0, .int .u8 0, .int .u8 0, .int .u8 0, .int .u8 0, .int .u8 0, .int .u8 0, .int .u8 0, .int .u8 0, .int .u8 0, .int .u8 0, .int .u8 0] 38)).setRow gl LC) (G + 1 + 1 + 1) 52 ((grantedE 0)) from (Kr.out.alloc _).rowfar (by have := Nlr.out; omega) _)
  have Nlx := Lib.hid (show gx < gl from by rw [← hgl]; exact Kx.out.lt)
  replace Kx := Lib.hid (show Blk ((w7.alloc (.cells #[.int .i64 0, .int .i64 0, .int .i64 0, .int .i64 0, .int .u8 0, .int .u8 0, .int .u8 0, .int .u8 0, .int .u8 0, .int .u8 0, .int .u8 0, .int .u8 0, .int .u8 0, .int .u8 0, .int .u8 0, .int .u8 0, .int .u8 0, .int .u8 0, .int .u8 0, .int .u8 0] 38)).setRow gl LC) (gx) 88 #[.int .i64 x1, .int .i64 x2, .int .i64 x3] from (Kx.out.alloc _).rowfar (by have := Nlx.out; omega) _)
  have Ll := Lib.hid (show w.heap.size ≤ gl from by rw [← hgl]; exact B.out.size)
  replace B := Lib.hid (show Below w.heap.size w ((w7.alloc (.cells #[.int .i64 0, .int .i64 0, .int .i64 0, .int .i64 0, .int .u8 0, .int .u8 0, .int .u8 0, .int .u8 0, .int .u8 0, .int .u8 0, .int .u8 0, .int .u8 0, .int .u8 0, .int .u8 0, .int .u8 0, .int .u8 0, .int .u8 0, .int .u8 0, .int .u8 0, .int .u8 0] 38)).setRow gl LC) from below_setRow (B.out.alloc B.out.size _) Ll.out _)
  try rw [hgl]
  go_upto_region 10 with (first | (with_reducible refine Hs.wpList_store_blk rfl 38 _ _ rfl gl 38 leaseZ LC rfl rfl (Blk.hs KZ.out) BNl.out.info (big_leaseZ.same BNl.out) BNl.out.one rfl ?_))
  try rw [hgl]
  generalize hw : ((w7.alloc (.cells #[.int .i64 0, .int .i64 0, .int .i64 0, .int .i64 0, .int .u8 0, .int .u8 0, .int .u8 0, .int .u8 0, .int .u8 0, .int .u8 0, .int .u8 0, .int .u8 0, .int .u8 0, .int .u8 0, .int .u8 0, .int .u8 0, .int .u8 0, .int .u8 0, .int .u8 0, .int .u8 0] 38)).setRow gl LC) = w8 at Kg Kk Kp Kr Kx Kl B ⊢
  clear hw KZ hgl
  have BGl := BNl
  have Ngl := Nlg
  have Nkl := Nlk
  have Npl := Nlp
  have Nrl := Nlr
  have Nxl := Nlx
  clear Nlg Nlk Nlp Nlr Nlx
  obtain ⟨bgc0, bgc1, bgc2⟩ := three Kg.out
  obtain ⟨bkc0, bkc1, bkc2, bkc3, bkc4⟩ := five Kk.out
  obtain ⟨bpc0, bpc1⟩ := twob Kp.out
  obtain ⟨bxc0, bxc1, bxc2⟩ := three Kx.out
  clear bgc0 bgc1 bgc2 bkc0 bkc1 bkc2 bkc3 bkc4 bpc0 bpc1 bxc0 bxc1 bxc2
  obtain ⟨bgc0, bgc1, bgc2⟩ := three Kg.out
  obtain ⟨bkc0, bkc1, bkc2, bkc3, bkc4⟩ := five Kk.out
  obtain ⟨bpc0, bpc1⟩ := twob Kp.out
  obtain ⟨bxc0, bxc1, bxc2⟩ := three Kx.out
  have fzx := fun q => Kx.out.frozen q
  replace Kx := Lib.hid (show Blk (w8.setCell ⟨gx, 2, none⟩ (.int .i64 u)) (gx) 88 #[.int .i64 x1, .int .i64 x2, .int .i64 u] from Kx.out.set_ 2 (.int .i64 u))
  replace Kg := Lib.hid (show Blk (w8.setCell ⟨gx, 2, none⟩ (.int .i64 u)) (G) _ _ from Kg.out.far (p := ⟨gx, 2, none⟩) (by have := Ngx.out; show G ≠ gx; omega) (.int .i64 u))
  replace Kk := Lib.hid (show Blk (w8.setCell ⟨gx, 2, none⟩ (.int .i64 u)) (G + 1) _ _ from Kk.out.far (p := ⟨gx, 2, none⟩) (by have := Nkx.out; show G + 1 ≠ gx; omega) (.int .i64 u))
  replace Kp := Lib.hid (show Blk (w8.setCell ⟨gx, 2, none⟩ (.int .i64 u)) (G + 1 + 1) _ _ from Kp.out.far (p := ⟨gx, 2, none⟩) (by have := Npx.out; show G + 1 + 1 ≠ gx; omega) (.int .i64 u))
  replace Kr := Lib.hid (show Blk (w8.setCell ⟨gx, 2, none⟩ (.int .i64 u)) (G + 1 + 1 + 1) _ _ from Kr.out.far (p := ⟨gx, 2, none⟩) (by have := Nrx.out; show G + 1 + 1 + 1 ≠ gx; omega) (.int .i64 u))
  replace Kl := Lib.hid (show Blk (w8.setCell ⟨gx, 2, none⟩ (.int .i64 u)) (gl) _ _ from Kl.out.far (p := ⟨gx, 2, none⟩) (by first | (have := Nlx.out; show gl ≠ gx; omega) | (have := Nxl.out; show gl ≠ gx; omega)) (.int .i64 u))
  replace B := Lib.hid (show Below w.heap.size w (w8.setCell ⟨gx, 2, none⟩ (.int .i64 u)) from B.out.setCell (p := ⟨gx, 2, none⟩) Lx.out (.int .i64 u))
  go_upto_region 13 with (fail)
  generalize hw : (w8.setCell ⟨gx, 2, none⟩ (.int .i64 u)) = w9 at Kg Kk Kp Kr Kx Kl B ⊢
  clear bgc0 bgc1 bgc2 bkc0 bkc1 bkc2 bkc3 bkc4 bpc0 bpc1 bxc0 bxc1 bxc2 fzx
  clear hw
  refine Ph.start (S := Till 2 (fun _ => True) (fun W => Blk W (G) 24 #[.int .i64 la, .int .i64 mo, .slice a N c] ∧ Blk W (gx) 88 #[.int .i64 x1, .int .i64 x2, .int .i64 u] ∧ Blk W (gl) 38 (LC))) (by kernel_rfl) (Till.low trivial ⟨Kg.out.drew, Kx.out.drew, Kl.out.drew⟩) (fun _ => ?_)
  replace Kg := Lib.hid Kg.out.drew
  replace Kk := Lib.hid Kk.out.drew
  replace Kp := Lib.hid Kp.out.drew
  replace Kr := Lib.hid Kr.out.drew
  replace Kx := Lib.hid Kx.out.drew
  replace Kl := Lib.hid Kl.out.drew
  replace B := Lib.hid B.out.drew
  generalize w9.drew = v1 at Kg Kk Kp Kr Kx Kl B ⊢
  refine Ph.takeU (i := 0) (v := .agg #[.int .i64 la, .int .i64 mo, .slice a N c]) rfl (Or.inl ⟨by rfl, fun W hW => exec_load_row 24 _ rfl (G) rfl 24 #[.int .i64 la, .int .i64 mo, .slice a N c] (0, 0) _ (hW.1) Tryd.underlying24 rfl (big_grants _ _ _ _ _).info⟩) (Till.low trivial ⟨Kg.out, Kx.out, Kl.out⟩) ?_
  (try simp only [Act.put, List.getElem_toArray, List.getElem_cons_succ, List.getElem_cons_zero, List.setIfInBounds_toArray, List.set_cons_zero, List.set_cons_succ])
  refine Ph.takeU (i := 1) (v := .agg #[.int .i64 x1, .int .i64 x2, .int .i64 u]) rfl (Or.inl ⟨by rfl, fun W hW => exec_load_row 88 _ rfl (gx) rfl 88 #[.int .i64 x1, .int .i64 x2, .int .i64 u] (0, 0) _ (hW.2.1) Tryd.underlying88 rfl (big_grant _ _ _).info⟩) (Till.low trivial ⟨Kg.out, Kx.out, Kl.out⟩) ?_
  (try simp only [Act.put, List.getElem_toArray, List.getElem_cons_succ, List.getElem_cons_zero, List.setIfInBounds_toArray, List.set_cons_zero, List.set_cons_succ])
  refine Ph.takeU (i := 3) (v := .agg (LC)) rfl (Or.inl ⟨by rfl, fun W hW => exec_load_row 38 _ rfl (gl) rfl 38 (LC) (0, 0) _ (hW.2.2) Tryd.underlying38 rfl BNl.out.info⟩) (Till.low trivial ⟨Kg.out, Kx.out, Kl.out⟩) ?_
  (try simp only [Act.put, List.getElem_toArray, List.getElem_cons_succ, List.getElem_cons_zero, List.setIfInBounds_toArray, List.set_cons_zero, List.set_cons_succ])
  refine Ph.ready (rs := [2]) (by kernel_rfl) (by simp) (All.cons rfl (fun K hK => ?_) (All.nil))
  go_simp
  refine (PT.out _ (HP.out.mono B.out)).mono ?_
  rintro e v2 ⟨⟨a6, c6, rfl, hr, hf⟩, hb⟩
  have Qg := Lib.hid Kg.out.lt
  have Qk := Lib.hid Kk.out.lt
  have Qp := Lib.hid Kp.out.lt
  have Qr := Lib.hid Kr.out.lt
  have Qx := Lib.hid Kx.out.lt
  have Ql := Lib.hid Kl.out.lt
  replace Kg := Lib.hid (Kg.out.below hb Kg.out.lt)
  replace Kk := Lib.hid (Kk.out.below hb Kk.out.lt)
  replace Kp := Lib.hid (Kp.out.below hb Kp.out.lt)
  replace Kr := Lib.hid (Kr.out.below hb Kr.out.lt)
  replace Kx := Lib.hid (Kx.out.below hb Kx.out.lt)
  replace Kl := Lib.hid (Kl.out.below hb Kl.out.lt)
  replace B := Lib.hid (B.out.trans (hb.mono B.out.size))
  have R6 := Lib.hid hr
  have E6g := Lib.hid (show ∀ p, a6 = some p → p.block ≠ G from fun p hp => by have h1 := hf p hp; have h2 := Qg.out; omega)
  have E6k := Lib.hid (show ∀ p, a6 = some p → p.block ≠ G + 1 from fun p hp => by have h1 := hf p hp; have h2 := Qk.out; omega)
  have E6p := Lib.hid (show ∀ p, a6 = some p → p.block ≠ G + 1 + 1 from fun p hp => by have h1 := hf p hp; have h2 := Qp.out; omega)
  have E6r := Lib.hid (show ∀ p, a6 = some p → p.block ≠ G + 1 + 1 + 1 from fun p hp => by have h1 := hf p hp; have h2 := Qr.out; omega)
  have E6x := Lib.hid (show ∀ p, a6 = some p → p.block ≠ gx from fun p hp => by have h1 := hf p hp; have h2 := Qx.out; omega)
  have E6l := Lib.hid (show ∀ p, a6 = some p → p.block ≠ gl from fun p hp => by have h1 := hf p hp; have h2 := Ql.out; omega)
  skip
  clear hr hf Qg Qk Qp Qr Qx Ql
  clear hb
  go_wp2_with fail
  refine hK _ _ (Till.high (by rfl) ⟨Kg.out, Kx.out, Kl.out⟩) (fun _ => ?_)
  clear hK K
  refine Ph.takeU (i := 4) (v := .agg (GC a6 L2.length c6)) rfl (Or.inl ⟨by rfl, fun W hW => exec_build 52 _ rfl #[(0, .agg #[.int .i64 la, .int .i64 mo, .slice a6 L2.length c6]), (1, .agg LC)] (by kernel_rfl) _ (BF.out a6 L2.length c6 W)⟩) (Till.high (by rfl) ⟨Kg.out, Kx.out, Kl.out⟩) ?_
  (try simp only [Act.put, List.getElem_toArray, List.getElem_cons_succ, List.getElem_cons_zero, List.setIfInBounds_toArray, List.set_cons_zero, List.set_cons_succ])
  (try simp only [Act.put, List.getElem_toArray, List.getElem_cons_succ, List.getElem_cons_zero, List.setIfInBounds_toArray, List.set_cons_zero, List.set_cons_succ])
  refine Ph.ready (rs := [5]) (by kernel_rfl) (by simp) (All.cons rfl (fun K hK => ?_) (All.nil))
  rw [if_pos (by rfl)]
  refine wp_store_row 52 _ _ rfl (G + 1 + 1 + 1) 52 ((grantedE 0)) (GC a6 L2.length c6) rfl rfl (Blk.hs Kr.out) (BNg.out a6 L2.length c6).info ((big_grantedE 0).same (BNg.out a6 L2.length c6)) (BNg.out a6 L2.length c6).one rfl ?_
  replace Kr := Lib.hid (show Blk (v2.setRow (G + 1 + 1 + 1) (GC a6 L2.length c6)) (G + 1 + 1 + 1) 52 (GC a6 L2.length c6) from Kr.out.row_ _)
  replace Kg := Lib.hid (show Blk (v2.setRow (G + 1 + 1 + 1) (GC a6 L2.length c6)) (G) _ _ from Kg.out.rowfar (by omega) _)
  replace Kk := Lib.hid (show Blk (v2.setRow (G + 1 + 1 + 1) (GC a6 L2.length c6)) (G + 1) _ _ from Kk.out.rowfar (by omega) _)
  replace Kp := Lib.hid (show Blk (v2.setRow (G + 1 + 1 + 1) (GC a6 L2.length c6)) (G + 1 + 1) _ _ from Kp.out.rowfar (by omega) _)
  replace Kx := Lib.hid (show Blk (v2.setRow (G + 1 + 1 + 1) (GC a6 L2.length c6)) (gx) _ _ from Kx.out.rowfar (by have := Nrx.out; omega) _)
  replace Kl := Lib.hid (show Blk (v2.setRow (G + 1 + 1 + 1) (GC a6 L2.length c6)) (gl) _ _ from Kl.out.rowfar (by have := Nrl.out; omega) _)
  replace R6 := Lib.hid (RowsA.rowfar R6.out E6r.out (GC a6 L2.length c6))
  replace B := Lib.hid (show Below w.heap.size w (v2.setRow (G + 1 + 1 + 1) (GC a6 L2.length c6)) from below_setRow B.out (show w.heap.size ≤ G + 1 + 1 + 1 by have := HG.out; omega) _)
  generalize hw2 : (v2.setRow (G + 1 + 1 + 1) (GC a6 L2.length c6)) = v3 at Kg Kk Kp Kr Kx Kl R6 B ⊢
  clear hw2
  refine hK _ _ (Till.high (by rfl) ⟨Kg.out, Kx.out, Kl.out⟩) (fun _ => ?_)
  clear hK K
  (try simp only [Act.put, List.getElem_toArray, List.getElem_cons_succ, List.getElem_cons_zero, List.setIfInBounds_toArray, List.set_cons_zero, List.set_cons_succ])
  refine Ph.done (by kernel_rfl) ?_ _
  go_wp2_with fail
  refine bodyPost_ret (v := .agg (GC a6 L2.length c6)) (results_cell_row rfl _ _ _ 52 _ (0, 0) _ rfl Kr.out Tryd.underlying52 rfl (BNg.out a6 L2.length c6).info) rfl ?_
  exact ⟨⟨a6, c6, rfl, R6.out⟩, B.out⟩
end Le
end Go.Proofs.YteblnmhaohbkkaaDoor
