import Derived.Test.YteblnmhaohbkkaaDoorRLeN
import Derived.Test.YteblnmhaohbkkaaDoorRSZA
import Derived.Laws.ResultCell
namespace Go.Proofs.YteblnmhaohbkkaaDoor
set_option linter.unusedVariables false
set_option linter.unusedSimpArgs false
set_option linter.unusedSectionVars false
namespace Le
open Go.RowKit
structure BigR (t : TypeId) (C : Array Value) : Prop where
  info : (Tryd.prog.info? t).map (·.size) = some C.size
  one : C.all (·.oneCell') = true
theorem BigR.same {t : TypeId} {C D : Array Value} (h : BigR t C) (k : BigR t D) : C.size = D.size := by
  have := h.info
  rw [k.info] at this
  injection this with e
  exact e.symm
theorem Blk.hs {W : World} {g : Nat} {t : TypeId} {C : Array Value} (h : Blk W g t C) : Hs.Blk W g t C := h
theorem results_row_tmp {P : Program} {fn : Func} {p u : Tmp} {ty : TypeId} (h : fn.results = #[.cell p ty, .tmp u]) (tmps : Array Value) (w : World) (g : Nat) (t : TypeId) (cs : Array Value) (fr : Nat × Nat) (d : TypeDesc)
    (hp : tmps.getD p undef = .pointer (some ⟨g, 0, none⟩)) (hg : w.heap[g]? = some (.cells cs t fr))
    (hu : P.underlying ty = some d) (hd : (match d with | .struct _ | .array _ _ => true | _ => false) = true) (hi : (P.info? ty).map (·.size) = some cs.size) :
    (results fn tmps).run P w = .ok (.tuple #[.agg cs, tmps.getD u undef]) w := by
  rw [results_cell_tmp h, hp]
  simp only [asAddr, Sem.run_pure, Result.andThen_ok, run_loadVar_row w g t ty cs fr d hg hu hd hi]
theorem wpList_store_mid {P : Program} {ops : Array Oper} {rest : List Oper} {op : Oper} {a : Act} {w : World} {Q : Exit → Act → World → Prop} (hgd : op.guard = none) (ty : TypeId) (x y : Operand) (ho : op.op = .store ty x y)
    (g n : Nat) (t : TypeId) (cur : List Value) (cells : Array Value) (hx : a.eval x = .pointer (some ⟨g, n, none⟩)) (hy : a.eval y = .agg cells)
    (hg : Hs.Blk w g t cur.toArray) (hi : (P.info? ty).map (·.size) = some cells.size) (hf : n + cells.size ≤ cur.length) (h1 : cells.all (·.oneCell') = true)
    (hd : op.dst = none) (h : wpList P ops Q rest a (w.setRow g (splice cur n cells.toList).toArray)) : wpList P ops Q (op :: rest) a w :=
  wpList_plain hgd fun K hK => wp_store_mid ty x y ho g n t cur cells hx hy hg hi hf h1 hd (hK _ _ h)
def heldL (st he ls le lu lr : Int) (D : List Nat) : List Value := ([.int .i64 st, .int .i64 he] : List Value) ++ leaseL ls le lu lr D
def heldC (st he ls le lu lr : Int) (D : List Nat) : Array Value := (heldL st he ls le lu lr D).toArray
abbrev leaseZ : Array Value := #[.int .i64 0, .int .i64 0, .int .i64 0, .int .i64 0, .int .u8 0, .int .u8 0, .int .u8 0, .int .u8 0, .int .u8 0, .int .u8 0, .int .u8 0, .int .u8 0, .int .u8 0, .int .u8 0, .int .u8 0, .int .u8 0, .int .u8 0, .int .u8 0, .int .u8 0, .int .u8 0]
abbrev heldZ : Array Value := #[.int .i64 0, .int .i64 0, .int .i64 0, .int .i64 0, .int .i64 0, .int .i64 0, .int .u8 0, .int .u8 0, .int .u8 0, .int .u8 0, .int .u8 0, .int .u8 0, .int .u8 0, .int .u8 0, .int .u8 0, .int .u8 0, .int .u8 0, .int .u8 0, .int .u8 0, .int .u8 0, .int .u8 0, .int .u8 0]
theorem held_at {X : World} {g : Nat} {t : TypeId} {st he ls le lu lr : Int} {D : List Nat} (h : Blk X g t (heldC st he ls le lu lr D)) : X.cell? ⟨g, 0, none⟩ = some (.int .i64 st) ∧ X.cell? ⟨g, 1, none⟩ = some (.int .i64 he) ∧ X.cell? ⟨g, 4, none⟩ = some (.int .i64 lu) := ⟨h.cell 0, h.cell 1, h.cell 4⟩
theorem held_splice (st he ls le lu lr ls2 le2 lu2 lr2 : Int) (D V : List Nat) (hD : D.length = 16) (hV : V.length = 16) : (splice (heldL st he ls le lu lr D) 2 (leaseC ls2 le2 lu2 lr2 V).toList).toArray = heldC st he ls2 le2 lu2 lr2 V := by
  unfold splice heldL heldC leaseC leaseL heldL leaseL
  simp [hV, hD]
theorem big_lease {s e u r : Int} {D : List Nat} (hD : D.length = 16) : BigR 38 (leaseC s e u r D) := ⟨by rw [lease_size _ _ _ _ _ hD]; kernel_rfl, lease_one _ _ _ _ _⟩
theorem held_size {st he ls le lu lr : Int} {D : List Nat} (hD : D.length = 16) : (heldC st he ls le lu lr D).size = 22 := by unfold heldC heldL leaseL; simp [hD]
theorem big_held {st he ls le lu lr : Int} {D : List Nat} (hD : D.length = 16) : BigR 67 (heldC st he ls le lu lr D) := by
  refine ⟨by rw [held_size hD]; kernel_rfl, ?_⟩
  rw [Array.all_eq_true_iff_forall_mem]
  intro v hv
  unfold heldC heldL leaseL at hv
  simp only [List.mem_toArray, List.mem_append, List.mem_cons, List.not_mem_nil, or_false, List.mem_map] at hv
  rcases hv with (rfl | rfl) | (rfl | rfl | rfl | rfl) | ⟨x, -, rfl⟩ <;> rfl
theorem big_leaseZ : BigR 38 leaseZ := ⟨by kernel_rfl, by kernel_rfl⟩
theorem big_heldZ : BigR 67 heldZ := ⟨by kernel_rfl, by kernel_rfl⟩
def HeldOk (st he lu : Int) : Prop := (0 ≤ st ∧ st < 64) ∧ (0 ≤ he ∧ he ≤ 1099511627776) ∧ 0 ≤ lu ∧ lu ≤ 1099511627776
instance (st he lu : Int) : Decidable (HeldOk st he lu) := by unfold HeldOk; infer_instance
set_option maxRecDepth 100000 in
set_option maxHeartbeats 2000000 in
theorem held_n1 (st he ls le lu lr : Int) (D : List Nat) (w : World) (hD : D.length = 16) (h1 : ¬ (0 ≤ st ∧ st < 64)) :
    Calls Tryd.prog 47 #[.agg (heldC st he ls le lu lr D)] w fun e w' => e = .returned (.bool false) ∧ Below w.heap.size w w' := by
  have C1 := Lib.hid (fun W => isSite_no h1 W)
  clear h1
  have BGh := Lib.hid (show BigR 67 (heldC st he ls le lu lr D) from big_held hD)
  obtain ⟨Vh, hVh⟩ : ∃ C, heldC st he ls le lu lr D = C := ⟨_, rfl⟩
  obtain ⟨G, hG⟩ : ∃ G, w.heap.size = G := ⟨_, rfl⟩
  have HG := Lib.hid hG
  obtain ⟨w0, hw0, Kh, B⟩ : ∃ X, (w.alloc (.cells Vh 67)) = X ∧ Hid (Blk X (G) 67 (heldC st he ls le lu lr D)) ∧ Hid (Below w.heap.size w X) := ⟨_, rfl, Lib.hid (by rw [hVh]; exact Blk.new' _ _ _ _ hG rfl), Lib.hid (by (repeat' (first | (with_reducible exact Below.refl _ _) | (with_reducible assumption) | (with_reducible refine Below.alloc ?_ ?_ _) | (with_reducible refine Below.drew ?_) | (with_reducible refine below_dn ?_) | (with_reducible refine Below.setCell ?_ ?_ _) | (with_reducible exact Nat.le_refl _) | omega | (simp only [World.size_alloc, World.size_setCell, World.size_drew]; omega) | (simp; omega) | (simp; done))))⟩
  try rw [hVh]
  have EVh := Lib.hid hVh
  clear hVh
  go_enter Tryd.func47, Tryd.ntmps47
  go_upto_region 1 with (fail)
  try rw [hG]
  try rw [hw0]
  clear hw0 hG
  obtain ⟨bhc0, bhc1, bhc2⟩ := held_at Kh.out
  go_wp2_with (fail)
  refine (C1.out _).mono ?_
  rintro e wz ⟨rfl, rfl⟩
  go_wp2
  go_ret
  exact ⟨rfl, B.out⟩
set_option maxRecDepth 100000 in
set_option maxHeartbeats 2000000 in
theorem held_n2 (st he ls le lu lr : Int) (D : List Nat) (w : World) (hD : D.length = 16) (h1 : 0 ≤ st ∧ st < 64) (h2 : ¬ (0 ≤ he ∧ he ≤ 1099511627776)) :
    Calls Tryd.prog 47 #[.agg (heldC st he ls le lu lr D)] w fun e w' => e = .returned (.bool false) ∧ Below w.heap.size w w' := by
  have C1 := Lib.hid (fun W => isSite_yes h1 W)
  have C2 := Lib.hid (fun W => within_no h2 W)
  clear h1 h2
  have BGh := Lib.hid (show BigR 67 (heldC st he ls le lu lr D) from big_held hD)
  obtain ⟨Vh, hVh⟩ : ∃ C, heldC st he ls le lu lr D = C := ⟨_, rfl⟩
  obtain ⟨G, hG⟩ : ∃ G, w.heap.size = G := ⟨_, rfl⟩
  have HG := Lib.hid hG
  obtain ⟨w0, hw0, Kh, B⟩ : ∃ X, (w.alloc (.cells Vh 67)) = X ∧ Hid (Blk X (G) 67 (heldC st he ls le lu lr D)) ∧ Hid (Below w.heap.size w X) := ⟨_, rfl, Lib.hid (by rw [hVh]; exact Blk.new' _ _ _ _ hG rfl), Lib.hid (by (repeat' (first | (with_reducible exact Below.refl _ _) | (with_reducible assumption) | (with_reducible refine Below.alloc ?_ ?_ _) | (with_reducible refine Below.drew ?_) | (with_reducible refine below_dn ?_) | (with_reducible refine Below.setCell ?_ ?_ _) | (with_reducible exact Nat.le_refl _) | omega | (simp only [World.size_alloc, World.size_setCell, World.size_drew]; omega) | (simp; omega) | (simp; done))))⟩
  try rw [hVh]
  have EVh := Lib.hid hVh
  clear hVh
  go_enter Tryd.func47, Tryd.ntmps47
  go_upto_region 1 with (fail)
  try rw [hG]
  try rw [hw0]
  clear hw0 hG
  obtain ⟨bhc0, bhc1, bhc2⟩ := held_at Kh.out
  go_wp2_with (fail)
  refine (C1.out _).mono ?_
  rintro e wz ⟨rfl, rfl⟩
  go_wp2_with (fail)
  refine (C2.out _).mono ?_
  rintro e wz ⟨rfl, rfl⟩
  go_wp2
  go_ret
  exact ⟨rfl, B.out⟩
set_option maxRecDepth 100000 in
set_option maxHeartbeats 2000000 in
theorem held_n3 (st he ls le lu lr : Int) (D : List Nat) (w : World) (hD : D.length = 16) (h1 : 0 ≤ st ∧ st < 64) (h2 : 0 ≤ he ∧ he ≤ 1099511627776) (h3 : ¬ (0 ≤ lu ∧ lu ≤ 1099511627776)) :
    Calls Tryd.prog 47 #[.agg (heldC st he ls le lu lr D)] w fun e w' => e = .returned (.bool false) ∧ Below w.heap.size w w' := by
  have C1 := Lib.hid (fun W => isSite_yes h1 W)
  have C2 := Lib.hid (fun W => within_yes h2 W)
  have C3 := Lib.hid (fun W => within_no h3 W)
  clear h1 h2 h3
  have BGh := Lib.hid (show BigR 67 (heldC st he ls le lu lr D) from big_held hD)
  obtain ⟨Vh, hVh⟩ : ∃ C, heldC st he ls le lu lr D = C := ⟨_, rfl⟩
  obtain ⟨G, hG⟩ : ∃ G, w.heap.size = G := ⟨_, rfl⟩
  have HG := Lib.hid hG
  obtain ⟨w0, hw0, Kh, B⟩ : ∃ X, (w.alloc (.cells Vh 67)) = X ∧ Hid (Blk X (G) 67 (heldC st he ls le lu lr D)) ∧ Hid (Below w.heap.size w X) := ⟨_, rfl, Lib.hid (by rw [hVh]; exact Blk.new' _ _ _ _ hG rfl), Lib.hid (by (repeat' (first | (with_reducible exact Below.refl _ _) | (with_reducible assumption) | (with_reducible refine Below.alloc ?_ ?_ _) | (with_reducible refine Below.drew ?_) | (with_reducible refine below_dn ?_) | (with_reducible refine Below.setCell ?_ ?_ _) | (with_reducible exact Nat.le_refl _) | omega | (simp only [World.size_alloc, World.size_setCell, World.size_drew]; omega) | (simp; omega) | (simp; done))))⟩
  try rw [hVh]
  have EVh := Lib.hid hVh
  clear hVh
  go_enter Tryd.func47, Tryd.ntmps47
  go_upto_region 1 with (fail)
  try rw [hG]
  try rw [hw0]
  clear hw0 hG
  obtain ⟨bhc0, bhc1, bhc2⟩ := held_at Kh.out
  go_wp2_with (fail)
  refine (C1.out _).mono ?_
  rintro e wz ⟨rfl, rfl⟩
  go_wp2_with (fail)
  refine (C2.out _).mono ?_
  rintro e wz ⟨rfl, rfl⟩
  go_wp2_with (fail)
  refine (C3.out _).mono ?_
  rintro e wz ⟨rfl, rfl⟩
  go_wp2
  go_ret
  exact ⟨rfl, B.out⟩
set_option maxRecDepth 100000 in
set_option maxHeartbeats 2000000 in
theorem held_y (st he ls le lu lr : Int) (D : List Nat) (w : World) (hD : D.length = 16) (h1 : 0 ≤ st ∧ st < 64) (h2 : 0 ≤ he ∧ he ≤ 1099511627776) (h3 : 0 ≤ lu ∧ lu ≤ 1099511627776) :
    Calls Tryd.prog 47 #[.agg (heldC st he ls le lu lr D)] w fun e w' => e = .returned (.bool true) ∧ Below w.heap.size w w' := by
  have C1 := Lib.hid (fun W => isSite_yes h1 W)
  have C2 := Lib.hid (fun W => within_yes h2 W)
  have C3 := Lib.hid (fun W => within_yes h3 W)
  clear h1 h2 h3
  have BGh := Lib.hid (show BigR 67 (heldC st he ls le lu lr D) from big_held hD)
  obtain ⟨Vh, hVh⟩ : ∃ C, heldC st he ls le lu lr D = C := ⟨_, rfl⟩
  obtain ⟨G, hG⟩ : ∃ G, w.heap.size = G := ⟨_, rfl⟩
  have HG := Lib.hid hG
  obtain ⟨w0, hw0, Kh, B⟩ : ∃ X, (w.alloc (.cells Vh 67)) = X ∧ Hid (Blk X (G) 67 (heldC st he ls le lu lr D)) ∧ Hid (Below w.heap.size w X) := ⟨_, rfl, Lib.hid (by rw [hVh]; exact Blk.new' _ _ _ _ hG rfl), Lib.hid (by (repeat' (first | (with_reducible exact Below.refl _ _) | (with_reducible assumption) | (with_reducible refine Below.alloc ?_ ?_ _) | (with_reducible refine Below.drew ?_) | (with_reducible refine below_dn ?_) | (with_reducible refine Below.setCell ?_ ?_ _) | (with_reducible exact Nat.le_refl _) | omega | (simp only [World.size_alloc, World.size_setCell, World.size_drew]; omega) | (simp; omega) | (simp; done))))⟩
  try rw [hVh]
  have EVh := Lib.hid hVh
  clear hVh
  go_enter Tryd.func47, Tryd.ntmps47
  go_upto_region 1 with (fail)
  try rw [hG]
  try rw [hw0]
  clear hw0 hG
  obtain ⟨bhc0, bhc1, bhc2⟩ := held_at Kh.out
  go_wp2_with (fail)
  refine (C1.out _).mono ?_
  rintro e wz ⟨rfl, rfl⟩
  go_wp2_with (fail)
  refine (C2.out _).mono ?_
  rintro e wz ⟨rfl, rfl⟩
  go_wp2_with (fail)
  refine (C3.out _).mono ?_
  rintro e wz ⟨rfl, rfl⟩
  go_wp2
  go_ret
  exact ⟨rfl, B.out⟩
theorem held_any (st he ls le lu lr : Int) (D : List Nat) (w : World) (hD : D.length = 16) : Calls Tryd.prog 47 #[.agg (heldC st he ls le lu lr D)] w fun e w' => e = .returned (.bool (decide (HeldOk st he lu))) ∧ Below w.heap.size w w' := by
  by_cases h1 : 0 ≤ st ∧ st < 64
  · by_cases h2 : 0 ≤ he ∧ he ≤ 1099511627776
    · by_cases h3 : 0 ≤ lu ∧ lu ≤ 1099511627776
      · rw [decide_eq_true (show HeldOk st he lu from ⟨h1, h2, h3⟩)]; exact held_y st he ls le lu lr D w hD h1 h2 h3
      · rw [decide_eq_false (fun q : HeldOk st he lu => h3 q.2.2)]; exact held_n3 st he ls le lu lr D w hD h1 h2 h3
    · rw [decide_eq_false (fun q : HeldOk st he lu => h2 q.2.1)]; exact held_n2 st he ls le lu lr D w hD h1 h2
  · rw [decide_eq_false (fun q : HeldOk st he lu => h1 q.1)]; exact held_n1 st he ls le lu lr D w hD h1
set_option maxRecDepth 100000 in
set_option maxHeartbeats 2000000 in
theorem serve_n1 (st he ls le lu lr lo hi : Int) (D : List Nat) (w : World) (hD : D.length = 16) (h1 : decide (HeldOk st he lu) = false) :
    Calls Tryd.prog 29 #[.agg (heldC st he ls le lu lr D), per lo hi] w fun e w' => e = .returned (.bool false) ∧ Below w.heap.size w w' := by
  have C1 := Lib.hid (fun W => held_any st he ls le lu lr D W hD)
  rw [h1] at C1
  clear h1
  have BGh := Lib.hid (show BigR 67 (heldC st he ls le lu lr D) from big_held hD)
  obtain ⟨Vh, hVh⟩ : ∃ C, heldC st he ls le lu lr D = C := ⟨_, rfl⟩
  obtain ⟨G, hG⟩ : ∃ G, w.heap.size = G := ⟨_, rfl⟩
  have HG := Lib.hid hG
  obtain ⟨w0, hw0, Kh, Kp, B⟩ : ∃ X, ((w.alloc (.cells Vh 67)).alloc (.cells #[.int .i64 lo, .int .i64 hi] 28)) = X ∧ Hid (Blk X (G) 67 (heldC st he ls le lu lr D)) ∧ Hid (Blk X (G + 1) 28 #[.int .i64 lo, .int .i64 hi]) ∧ Hid (Below w.heap.size w X) := ⟨_, rfl, Lib.hid (by rw [hVh]; exact (Blk.new' _ _ _ _ hG rfl).alloc _), Lib.hid (Blk.new' _ _ _ _ (by rw [World.size_alloc, hG]) rfl), Lib.hid (by (repeat' (first | (with_reducible exact Below.refl _ _) | (with_reducible assumption) | (with_reducible refine Below.alloc ?_ ?_ _) | (with_reducible refine Below.drew ?_) | (with_reducible refine below_dn ?_) | (with_reducible refine Below.setCell ?_ ?_ _) | (with_reducible exact Nat.le_refl _) | omega | (simp only [World.size_alloc, World.size_setCell, World.size_drew]; omega) | (simp; omega) | (simp; done))))⟩
  try rw [hVh]
  have EVh := Lib.hid hVh
  clear hVh
  go_enter Tryd.func29, Tryd.ntmps29
  go_upto_region 1 with (fail)
  try rw [hG]
  try rw [hw0]
  clear hw0 hG
  obtain ⟨bhc0, bhc1, bhc2⟩ := held_at Kh.out
  obtain ⟨bpc0, bpc1⟩ := twob Kp.out
  go_wp2_with (first | (with_reducible refine Hs.wpList_load_all rfl 67 _ rfl (G) rfl 67 (heldC st he ls le lu lr D) _ (Blk.hs Kh.out) Tryd.underlying67 BGh.out.info ?_))
  refine (C1.out _).mono ?_
  rintro e w1 ⟨rfl, hb⟩
  replace Kh := Lib.hid (Kh.out.below hb Kh.out.lt)
  replace Kp := Lib.hid (Kp.out.below hb Kp.out.lt)
  replace B := Lib.hid (B.out.trans (hb.mono B.out.size))
  clear bhc0 bhc1 bhc2 bpc0 bpc1
  clear hb
  obtain ⟨bhc0, bhc1, bhc2⟩ := held_at Kh.out
  obtain ⟨bpc0, bpc1⟩ := twob Kp.out
  go_wp2
  go_ret
  exact ⟨rfl, B.out⟩
set_option maxRecDepth 100000 in
set_option maxHeartbeats 2000000 in
theorem serve_n2 (st he ls le lu lr lo hi : Int) (D : List Nat) (w : World) (hD : D.length = 16) (h1 : decide (HeldOk st he lu) = true) (h2 : perB lo hi = false) :
    Calls Tryd.prog 29 #[.agg (heldC st he ls le lu lr D), per lo hi] w fun e w' => e = .returned (.bool false) ∧ Below w.heap.size w w' := by
  have C1 := Lib.hid (fun W => held_any st he ls le lu lr D W hD)
  rw [h1] at C1
  have C2 := Lib.hid (fun W => period_any lo hi W)
  rw [h2] at C2
  clear h1 h2
  have BGh := Lib.hid (show BigR 67 (heldC st he ls le lu lr D) from big_held hD)
  obtain ⟨Vh, hVh⟩ : ∃ C, heldC st he ls le lu lr D = C := ⟨_, rfl⟩
  obtain ⟨G, hG⟩ : ∃ G, w.heap.size = G := ⟨_, rfl⟩
  have HG := Lib.hid hG
  obtain ⟨w0, hw0, Kh, Kp, B⟩ : ∃ X, ((w.alloc (.cells Vh 67)).alloc (.cells #[.int .i64 lo, .int .i64 hi] 28)) = X ∧ Hid (Blk X (G) 67 (heldC st he ls le lu lr D)) ∧ Hid (Blk X (G + 1) 28 #[.int .i64 lo, .int .i64 hi]) ∧ Hid (Below w.heap.size w X) := ⟨_, rfl, Lib.hid (by rw [hVh]; exact (Blk.new' _ _ _ _ hG rfl).alloc _), Lib.hid (Blk.new' _ _ _ _ (by rw [World.size_alloc, hG]) rfl), Lib.hid (by (repeat' (first | (with_reducible exact Below.refl _ _) | (with_reducible assumption) | (with_reducible refine Below.alloc ?_ ?_ _) | (with_reducible refine Below.drew ?_) | (with_reducible refine below_dn ?_) | (with_reducible refine Below.setCell ?_ ?_ _) | (with_reducible exact Nat.le_refl _) | omega | (simp only [World.size_alloc, World.size_setCell, World.size_drew]; omega) | (simp; omega) | (simp; done))))⟩
  try rw [hVh]
  have EVh := Lib.hid hVh
  clear hVh
  go_enter Tryd.func29, Tryd.ntmps29
  go_upto_region 1 with (fail)
  try rw [hG]
  try rw [hw0]
  clear hw0 hG
  obtain ⟨bhc0, bhc1, bhc2⟩ := held_at Kh.out
  obtain ⟨bpc0, bpc1⟩ := twob Kp.out
  go_wp2_with (first | (with_reducible refine Hs.wpList_load_all rfl 67 _ rfl (G) rfl 67 (heldC st he ls le lu lr D) _ (Blk.hs Kh.out) Tryd.underlying67 BGh.out.info ?_))
  refine (C1.out _).mono ?_
  rintro e w1 ⟨rfl, hb⟩
  replace Kh := Lib.hid (Kh.out.below hb Kh.out.lt)
  replace Kp := Lib.hid (Kp.out.below hb Kp.out.lt)
  replace B := Lib.hid (B.out.trans (hb.mono B.out.size))
  clear bhc0 bhc1 bhc2 bpc0 bpc1
  clear hb
  obtain ⟨bhc0, bhc1, bhc2⟩ := held_at Kh.out
  obtain ⟨bpc0, bpc1⟩ := twob Kp.out
  go_wp2_with (fail)
  refine (C2.out _).mono ?_
  rintro e w2 ⟨rfl, hb⟩
  replace Kh := Lib.hid (Kh.out.below hb Kh.out.lt)
  replace Kp := Lib.hid (Kp.out.below hb Kp.out.lt)
  replace B := Lib.hid (B.out.trans (hb.mono B.out.size))
  clear bhc0 bhc1 bhc2 bpc0 bpc1
  clear hb
  obtain ⟨bhc0, bhc1, bhc2⟩ := held_at Kh.out
  obtain ⟨bpc0, bpc1⟩ := twob Kp.out
  go_wp2
  go_ret
  exact ⟨rfl, B.out⟩
set_option maxRecDepth 100000 in
set_option maxHeartbeats 2000000 in
theorem serve_y (st he ls le lu lr lo hi : Int) (D : List Nat) (w : World) (hD : D.length = 16) (h1 : decide (HeldOk st he lu) = true) (h2 : perB lo hi = true) :
    Calls Tryd.prog 29 #[.agg (heldC st he ls le lu lr D), per lo hi] w fun e w' => e = .returned (.bool (decide (hi < lu))) ∧ Below w.heap.size w w' := by
  have C1 := Lib.hid (fun W => held_any st he ls le lu lr D W hD)
  rw [h1] at C1
  have C2 := Lib.hid (fun W => period_any lo hi W)
  rw [h2] at C2
  have C3 := Lib.hid (fun W => before_any lo hi lu W)
  obtain ⟨R, hR⟩ : ∃ R, decide (hi < lu) = R := ⟨_, rfl⟩
  rw [hR] at C3 ⊢
  clear hR
  clear h1 h2
  have BGh := Lib.hid (show BigR 67 (heldC st he ls le lu lr D) from big_held hD)
  obtain ⟨Vh, hVh⟩ : ∃ C, heldC st he ls le lu lr D = C := ⟨_, rfl⟩
  obtain ⟨G, hG⟩ : ∃ G, w.heap.size = G := ⟨_, rfl⟩
  have HG := Lib.hid hG
  obtain ⟨w0, hw0, Kh, Kp, B⟩ : ∃ X, ((w.alloc (.cells Vh 67)).alloc (.cells #[.int .i64 lo, .int .i64 hi] 28)) = X ∧ Hid (Blk X (G) 67 (heldC st he ls le lu lr D)) ∧ Hid (Blk X (G + 1) 28 #[.int .i64 lo, .int .i64 hi]) ∧ Hid (Below w.heap.size w X) := ⟨_, rfl, Lib.hid (by rw [hVh]; exact (Blk.new' _ _ _ _ hG rfl).alloc _), Lib.hid (Blk.new' _ _ _ _ (by rw [World.size_alloc, hG]) rfl), Lib.hid (by (repeat' (first | (with_reducible exact Below.refl _ _) | (with_reducible assumption) | (with_reducible refine Below.alloc ?_ ?_ _) | (with_reducible refine Below.drew ?_) | (with_reducible refine below_dn ?_) | (with_reducible refine Below.setCell ?_ ?_ _) | (with_reducible exact Nat.le_refl _) | omega | (simp only [World.size_alloc, World.size_setCell, World.size_drew]; omega) | (simp; omega) | (simp; done))))⟩
  try rw [hVh]
  have EVh := Lib.hid hVh
  clear hVh
  go_enter Tryd.func29, Tryd.ntmps29
  go_upto_region 1 with (fail)
  try rw [hG]
  try rw [hw0]
  clear hw0 hG
  obtain ⟨bhc0, bhc1, bhc2⟩ := held_at Kh.out
  obtain ⟨bpc0, bpc1⟩ := twob Kp.out
  go_wp2_with (first | (with_reducible refine Hs.wpList_load_all rfl 67 _ rfl (G) rfl 67 (heldC st he ls le lu lr D) _ (Blk.hs Kh.out) Tryd.underlying67 BGh.out.info ?_))
  refine (C1.out _).mono ?_
  rintro e w1 ⟨rfl, hb⟩
  replace Kh := Lib.hid (Kh.out.below hb Kh.out.lt)
  replace Kp := Lib.hid (Kp.out.below hb Kp.out.lt)
  replace B := Lib.hid (B.out.trans (hb.mono B.out.size))
  clear bhc0 bhc1 bhc2 bpc0 bpc1
  clear hb
  obtain ⟨bhc0, bhc1, bhc2⟩ := held_at Kh.out
  obtain ⟨bpc0, bpc1⟩ := twob Kp.out
  go_wp2_with (fail)
  refine (C2.out _).mono ?_
  rintro e w2 ⟨rfl, hb⟩
  replace Kh := Lib.hid (Kh.out.below hb Kh.out.lt)
  replace Kp := Lib.hid (Kp.out.below hb Kp.out.lt)
  replace B := Lib.hid (B.out.trans (hb.mono B.out.size))
  clear bhc0 bhc1 bhc2 bpc0 bpc1
  clear hb
  obtain ⟨bhc0, bhc1, bhc2⟩ := held_at Kh.out
  obtain ⟨bpc0, bpc1⟩ := twob Kp.out
  go_wp2_with (fail)
  refine (C3.out _).mono ?_
  rintro e w3 ⟨rfl, hb⟩
  replace Kh := Lib.hid (Kh.out.below hb Kh.out.lt)
  replace Kp := Lib.hid (Kp.out.below hb Kp.out.lt)
  replace B := Lib.hid (B.out.trans (hb.mono B.out.size))
  clear bhc0 bhc1 bhc2 bpc0 bpc1
  clear hb
  obtain ⟨bhc0, bhc1, bhc2⟩ := held_at Kh.out
  obtain ⟨bpc0, bpc1⟩ := twob Kp.out
  go_wp2
  go_ret
  exact ⟨rfl, B.out⟩
def serveB (st he lu lo hi : Int) : Bool := decide (HeldOk st he lu) && perB lo hi && decide (hi < lu)
theorem serve_any (st he ls le lu lr lo hi : Int) (D : List Nat) (w : World) (hD : D.length = 16) : Calls Tryd.prog 29 #[.agg (heldC st he ls le lu lr D), per lo hi] w fun e w' => e = .returned (.bool (serveB st he lu lo hi)) ∧ Below w.heap.size w w' := by
  unfold serveB
  cases h1 : decide (HeldOk st he lu) with
  | false => exact serve_n1 st he ls le lu lr lo hi D w hD h1
  | true =>
    cases h2 : perB lo hi with
    | false => exact serve_n2 st he ls le lu lr lo hi D w hD h1 h2
    | true => exact serve_y st he ls le lu lr lo hi D w hD h1 h2
set_option maxRecDepth 100000 in
set_option maxHeartbeats 2000000 in
theorem take_keep (a : Option Addr) (c : Nat) (rg : List Rw) (st he ls le lu lr ep un sr : Int) (D V : List Nat) (w : World) (hp : RwA w a rg) (ok : RingOk rg) (hD : D.length = 16) (hV : V.length = 16) (hh : HeldOk st he lu) (hi : i64Ok ep ∧ i64Ok un ∧ i64Ok (un - 1) ∧ i64Ok sr) (hla : Hs.LaidC w) (hc : chkE rg 1 sr 43 [leaseP st ep un sr] V (un - 1) (un - 1) = 0) (h4 : ¬ he < ep) (h5 : ¬ lu < un) :
    Calls Tryd.prog 32 #[.slice a rg.length c, .agg (heldC st he ls le lu lr D), .agg (leaseC st ep un sr V)] w fun e w' => e = .returned (.tuple #[.agg (heldC st he ls le lu lr D), .int .i64 0]) ∧ Below w.heap.size w w' := by
  have HP := Lib.hid hp
  have HLA := Lib.hid hla
  have C1 := Lib.hid (fun W => held_any st he ls le lu lr D W hD)
  rw [decide_eq_true hh] at C1
  have C2 := Lib.hid (fun (X : World) (h : RwA X a rg) (k : Hs.LaidC X) => checkLease_any a c rg st ep un sr V X h ok hV hh.1 (by have := hh.1; unfold i64Ok; omega) hi.1 ⟨hi.2.1, hi.2.2.1⟩ hi.2.2.2 k)
  rw [hc] at C2
  have hst := hh.1
  obtain ⟨N, hN⟩ : ∃ N, rg.length = N := ⟨_, rfl⟩
  have HE := Lib.hid hN
  simp only [hN] at C2
  rw [hN]
  have SPL := Lib.hid (held_splice st he ls le lu lr st ep un sr D V hD hV)
  have BN := Lib.hid (big_held (st := st) (he := he) (ls := st) (le := ep) (lu := un) (lr := sr) hV)
  have BO := Lib.hid (big_held (st := st) (he := he) (ls := ls) (le := le) (lu := lu) (lr := lr) hD)
  have HF := Lib.hid (show 2 + (leaseC st ep un sr V).size ≤ (heldL st he ls le lu lr D).length by rw [lease_size _ _ _ _ _ hV]; unfold heldL leaseL; simp [hD])
  have t4 : decide (he < ep) = false := decide_eq_false h4
  have t5 : decide (lu < un) = false := decide_eq_false h5
  clear hp hla ok hh hi hc hN h4 h5 hst
  have BGh := Lib.hid (show BigR 67 (heldC st he ls le lu lr D) from big_held hD)
  obtain ⟨Vh, hVh⟩ : ∃ C, heldC st he ls le lu lr D = C := ⟨_, rfl⟩
  have BGl := Lib.hid (show BigR 38 (leaseC st ep un sr V) from big_lease hV)
  obtain ⟨Vl, hVl⟩ : ∃ C, leaseC st ep un sr V = C := ⟨_, rfl⟩
  obtain ⟨G, hG⟩ : ∃ G, w.heap.size = G := ⟨_, rfl⟩
  have HG := Lib.hid hG
  have BGr := Lib.hid (show BigR 67 (heldZ) from big_heldZ)
  obtain ⟨w0, hw0, Kh, Kl, Kr, B⟩ : ∃ X, (((w.alloc (.cells Vh 67)).alloc (.cells Vl 38)).alloc (.cells #[.int .i64 0, .int .i64 0, .int .i64 0, .int .i64 0, .int .i64 0, .int .i64 0, .int .u8 0, .int .u8 0, .int .u8 0, .int .u8 0, .int .u8 0, .int .u8 0, .int .u8 0, .int .u8 0, .int .u8 0, .int .u8 0, .int .u8 0, .int .u8 0, .int .u8 0, .int .u8 0, .int .u8 0, .int .u8 0] 67)) = X ∧ Hid (Blk X (G) 67 (heldC st he ls le lu lr D)) ∧ Hid (Blk X (G + 1) 38 (leaseC st ep un sr V)) ∧ Hid (Blk X (G + 1 + 1) 67 (heldZ)) ∧ Hid (Below w.heap.size w X) := ⟨_, rfl, Lib.hid (by rw [hVh]; exact ((Blk.new' _ _ _ _ hG rfl).alloc _).alloc _), Lib.hid (by rw [hVl]; exact (Blk.new' _ _ _ _ (by rw [World.size_alloc, hG]) rfl).alloc _), Lib.hid (Blk.new' _ _ _ _ (by rw [World.size_alloc, World.size_alloc, hG]) rfl), Lib.hid (by (repeat' (first | (with_reducible exact Below.refl _ _) | (with_reducible assumption) | (with_reducible refine Below.alloc ?_ ?_ _) | (with_reducible refine Below.drew ?_) | (with_reducible refine below_dn ?_) | (with_reducible refine Below.setCell ?_ ?_ _) | (with_reducible exact Nat.le_refl _) | omega | (simp only [World.size_alloc, World.size_setCell, World.size_drew]; omega) | (simp; omega) | (simp; done))))⟩
  try rw [hVh]
  have EVh := Lib.hid hVh
  clear hVh
  try rw [hVl]
  have EVl := Lib.hid hVl
  clear hVl
  go_enter Tryd.func32, Tryd.ntmps32
  go_upto_region 1 with (fail)
  try rw [hG]
  try rw [hw0]
  clear hw0 hG
  clear hD hV
  obtain ⟨bhc0, bhc1, bhc2⟩ := held_at Kh.out
  obtain ⟨blc0, blc1, blc2, blc3⟩ := lease_cells Kl.out
  go_wp2_with (first | (with_reducible refine Hs.wpList_load_all rfl 67 _ rfl (G) rfl 67 (heldC st he ls le lu lr D) _ (Blk.hs Kh.out) Tryd.underlying67 BGh.out.info ?_))
  refine (C1.out _).mono ?_
  rintro e w1 ⟨rfl, hb⟩
  replace Kh := Lib.hid (Kh.out.below hb Kh.out.lt)
  replace Kl := Lib.hid (Kl.out.below hb Kl.out.lt)
  replace Kr := Lib.hid (Kr.out.below hb Kr.out.lt)
  replace B := Lib.hid (B.out.trans (hb.mono B.out.size))
  clear bhc0 bhc1 bhc2 blc0 blc1 blc2 blc3
  clear hb
  obtain ⟨bhc0, bhc1, bhc2⟩ := held_at Kh.out
  obtain ⟨blc0, blc1, blc2, blc3⟩ := lease_cells Kl.out
  go_wp2_with (first | (with_reducible refine Hs.wpList_load_all rfl 38 _ rfl (G + 1) rfl 38 (leaseC st ep un sr V) _ (Blk.hs Kl.out) Tryd.underlying38 BGl.out.info ?_))
  refine (C2.out _ (HP.out.mono B.out) (HLA.out.below B.out)).mono ?_
  rintro e w2 ⟨rfl, hb⟩
  replace Kh := Lib.hid (Kh.out.below hb Kh.out.lt)
  replace Kl := Lib.hid (Kl.out.below hb Kl.out.lt)
  replace Kr := Lib.hid (Kr.out.below hb Kr.out.lt)
  replace B := Lib.hid (B.out.trans (hb.mono B.out.size))
  clear bhc0 bhc1 bhc2 blc0 blc1 blc2 blc3
  clear hb
  obtain ⟨bhc0, bhc1, bhc2⟩ := held_at Kh.out
  obtain ⟨blc0, blc1, blc2, blc3⟩ := lease_cells Kl.out
  go_wp2_with (first | (with_reducible refine Hs.wpList_store_blk rfl 67 _ _ rfl (G + 1 + 1) 67 _ (heldC st he ls le lu lr D) rfl rfl (Blk.hs Kr.out) BO.out.info (BGr.out.same BO.out) BO.out.one rfl ?_) | (with_reducible refine Hs.wpList_load_all rfl 67 _ rfl (G) rfl 67 (heldC st he ls le lu lr D) _ (Blk.hs Kh.out) Tryd.underlying67 BGh.out.info ?_))
  refine bodyPost_ret (results_row_tmp rfl _ _ (G + 1 + 1) 67 (heldC st he ls le lu lr D) (0, 0) _ rfl (Kr.out.row_ _) Tryd.underlying67 rfl BO.out.info) rfl ?_
  have B9 := below_setRow B.out (show w.heap.size ≤ G + 1 + 1 by have := HG.out; omega) (heldC st he ls le lu lr D)
  exact ⟨by rw [← EVh.out]; rfl, B9⟩
set_option maxRecDepth 100000 in
set_option maxHeartbeats 2000000 in
theorem take_new (a : Option Addr) (c : Nat) (rg : List Rw) (st he ls le lu lr ep un sr : Int) (D V : List Nat) (w : World) (hp : RwA w a rg) (ok : RingOk rg) (hD : D.length = 16) (hV : V.length = 16) (hh : HeldOk st he lu) (hi : i64Ok ep ∧ i64Ok un ∧ i64Ok (un - 1) ∧ i64Ok sr) (hla : Hs.LaidC w) (hc : chkE rg 1 sr 43 [leaseP st ep un sr] V (un - 1) (un - 1) = 0) (h4 : ¬ he < ep) (h5 : lu < un) :
    Calls Tryd.prog 32 #[.slice a rg.length c, .agg (heldC st he ls le lu lr D), .agg (leaseC st ep un sr V)] w fun e w' => e = .returned (.tuple #[.agg (heldC st he st ep un sr V), .int .i64 0]) ∧ Below w.heap.size w w' := by
  have HP := Lib.hid hp
  have HLA := Lib.hid hla
  have C1 := Lib.hid (fun W => held_any st he ls le lu lr D W hD)
  rw [decide_eq_true hh] at C1
  have C2 := Lib.hid (fun (X : World) (h : RwA X a rg) (k : Hs.LaidC X) => checkLease_any a c rg st ep un sr V X h ok hV hh.1 (by have := hh.1; unfold i64Ok; omega) hi.1 ⟨hi.2.1, hi.2.2.1⟩ hi.2.2.2 k)
  rw [hc] at C2
  have hst := hh.1
  obtain ⟨N, hN⟩ : ∃ N, rg.length = N := ⟨_, rfl⟩
  have HE := Lib.hid hN
  simp only [hN] at C2
  rw [hN]
  have SPL := Lib.hid (held_splice st he ls le lu lr st ep un sr D V hD hV)
  have BN := Lib.hid (big_held (st := st) (he := he) (ls := st) (le := ep) (lu := un) (lr := sr) hV)
  have BO := Lib.hid (big_held (st := st) (he := he) (ls := ls) (le := le) (lu := lu) (lr := lr) hD)
  have HF := Lib.hid (show 2 + (leaseC st ep un sr V).size ≤ (heldL st he ls le lu lr D).length by rw [lease_size _ _ _ _ _ hV]; unfold heldL leaseL; simp [hD])
  have t4 : decide (he < ep) = false := decide_eq_false h4
  have t5 : decide (lu < un) = true := decide_eq_true h5
  clear hp hla ok hh hi hc hN h4 h5 hst
  have BGh := Lib.hid (show BigR 67 (heldC st he ls le lu lr D) from big_held hD)
  obtain ⟨Vh, hVh⟩ : ∃ C, heldC st he ls le lu lr D = C := ⟨_, rfl⟩
  have BGl := Lib.hid (show BigR 38 (leaseC st ep un sr V) from big_lease hV)
  obtain ⟨Vl, hVl⟩ : ∃ C, leaseC st ep un sr V = C := ⟨_, rfl⟩
  obtain ⟨G, hG⟩ : ∃ G, w.heap.size = G := ⟨_, rfl⟩
  have HG := Lib.hid hG
  have BGr := Lib.hid (show BigR 67 (heldZ) from big_heldZ)
  obtain ⟨w0, hw0, Kh, Kl, Kr, B⟩ : ∃ X, (((w.alloc (.cells Vh 67)).alloc (.cells Vl 38)).alloc (.cells #[.int .i64 0, .int .i64 0, .int .i64 0, .int .i64 0, .int .i64 0, .int .i64 0, .int .u8 0, .int .u8 0, .int .u8 0, .int .u8 0, .int .u8 0, .int .u8 0, .int .u8 0, .int .u8 0, .int .u8 0, .int .u8 0, .int .u8 0, .int .u8 0, .int .u8 0, .int .u8 0, .int .u8 0, .int .u8 0] 67)) = X ∧ Hid (Blk X (G) 67 (heldC st he ls le lu lr D)) ∧ Hid (Blk X (G + 1) 38 (leaseC st ep un sr V)) ∧ Hid (Blk X (G + 1 + 1) 67 (heldZ)) ∧ Hid (Below w.heap.size w X) := ⟨_, rfl, Lib.hid (by rw [hVh]; exact ((Blk.new' _ _ _ _ hG rfl).alloc _).alloc _), Lib.hid (by rw [hVl]; exact (Blk.new' _ _ _ _ (by rw [World.size_alloc, hG]) rfl).alloc _), Lib.hid (Blk.new' _ _ _ _ (by rw [World.size_alloc, World.size_alloc, hG]) rfl), Lib.hid (by (repeat' (first | (with_reducible exact Below.refl _ _) | (with_reducible assumption) | (with_reducible refine Below.alloc ?_ ?_ _) | (with_reducible refine Below.drew ?_) | (with_reducible refine below_dn ?_) | (with_reducible refine Below.setCell ?_ ?_ _) | (with_reducible exact Nat.le_refl _) | omega | (simp only [World.size_alloc, World.size_setCell, World.size_drew]; omega) | (simp; omega) | (simp; done))))⟩
  try rw [hVh]
  have EVh := Lib.hid hVh
  clear hVh
  try rw [hVl]
  have EVl := Lib.hid hVl
  clear hVl
  go_enter Tryd.func32, Tryd.ntmps32
  go_upto_region 1 with (fail)
  try rw [hG]
  try rw [hw0]
  clear hw0 hG
  clear hD hV
  obtain ⟨bhc0, bhc1, bhc2⟩ := held_at Kh.out
  obtain ⟨blc0, blc1, blc2, blc3⟩ := lease_cells Kl.out
  go_wp2_with (first | (with_reducible refine Hs.wpList_load_all rfl 67 _ rfl (G) rfl 67 (heldC st he ls le lu lr D) _ (Blk.hs Kh.out) Tryd.underlying67 BGh.out.info ?_))
  refine (C1.out _).mono ?_
  rintro e w1 ⟨rfl, hb⟩
  replace Kh := Lib.hid (Kh.out.below hb Kh.out.lt)
  replace Kl := Lib.hid (Kl.out.below hb Kl.out.lt)
  replace Kr := Lib.hid (Kr.out.below hb Kr.out.lt)
  replace B := Lib.hid (B.out.trans (hb.mono B.out.size))
  clear bhc0 bhc1 bhc2 blc0 blc1 blc2 blc3
  clear hb
  obtain ⟨bhc0, bhc1, bhc2⟩ := held_at Kh.out
  obtain ⟨blc0, blc1, blc2, blc3⟩ := lease_cells Kl.out
  go_wp2_with (first | (with_reducible refine Hs.wpList_load_all rfl 38 _ rfl (G + 1) rfl 38 (leaseC st ep un sr V) _ (Blk.hs Kl.out) Tryd.underlying38 BGl.out.info ?_))
  refine (C2.out _ (HP.out.mono B.out) (HLA.out.below B.out)).mono ?_
  rintro e w2 ⟨rfl, hb⟩
  replace Kh := Lib.hid (Kh.out.below hb Kh.out.lt)
  replace Kl := Lib.hid (Kl.out.below hb Kl.out.lt)
  replace Kr := Lib.hid (Kr.out.below hb Kr.out.lt)
  replace B := Lib.hid (B.out.trans (hb.mono B.out.size))
  clear bhc0 bhc1 bhc2 blc0 blc1 blc2 blc3
  clear hb
  obtain ⟨bhc0, bhc1, bhc2⟩ := held_at Kh.out
  obtain ⟨blc0, blc1, blc2, blc3⟩ := lease_cells Kl.out
  have HM := Lib.hid (show Hs.Blk w2 G 67 (heldL st he ls le lu lr D).toArray from Kh.out)
  go_upto_region 10 with (first | (with_reducible refine Hs.wpList_load_all rfl 38 _ rfl (G + 1) rfl 38 (leaseC st ep un sr V) _ (Blk.hs Kl.out) Tryd.underlying38 BGl.out.info ?_) | (with_reducible refine wpList_store_mid rfl 38 _ _ rfl G 2 67 (heldL st he ls le lu lr D) (leaseC st ep un sr V) rfl rfl HM.out BGl.out.info HF.out BGl.out.one rfl ?_))
  rw [SPL.out]
  replace Kh := Lib.hid (show Blk (w2.setRow G (heldC st he st ep un sr V)) G 67 (heldC st he st ep un sr V) from Kh.out.row_ _)
  replace Kr := Lib.hid (show Blk (w2.setRow G (heldC st he st ep un sr V)) (G + 1 + 1) 67 heldZ from Kr.out.rowfar (by omega) _)
  replace B := Lib.hid (below_setRow B.out (show w.heap.size ≤ G by have := HG.out; omega) (heldC st he st ep un sr V))
  generalize hw : (w2.setRow G (heldC st he st ep un sr V)) = w3 at Kh Kr B ⊢
  clear bhc0 bhc1 bhc2 blc0 blc1 blc2 blc3
  clear hw Kl BGh HM
  have BGh := BN
  go_wp2_with (first | (with_reducible refine Hs.wpList_store_blk rfl 67 _ _ rfl (G + 1 + 1) 67 _ (heldC st he st ep un sr V) rfl rfl (Blk.hs Kr.out) BN.out.info (BGr.out.same BN.out) BN.out.one rfl ?_) | (with_reducible refine Hs.wpList_load_all rfl 67 _ rfl (G) rfl 67 (heldC st he st ep un sr V) _ (Blk.hs Kh.out) Tryd.underlying67 BGh.out.info ?_))
  refine bodyPost_ret (results_row_tmp rfl _ _ (G + 1 + 1) 67 (heldC st he st ep un sr V) (0, 0) _ rfl (Kr.out.row_ _) Tryd.underlying67 rfl BN.out.info) rfl ?_
  have B9 := below_setRow B.out (show w.heap.size ≤ G + 1 + 1 by have := HG.out; omega) (heldC st he st ep un sr V)
  exact ⟨rfl, B9⟩
end Le
end Go.Proofs.YteblnmhaohbkkaaDoor
