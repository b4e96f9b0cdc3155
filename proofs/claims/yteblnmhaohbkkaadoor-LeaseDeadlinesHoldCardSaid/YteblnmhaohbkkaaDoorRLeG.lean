import Derived.Test.YteblnmhaohbkkaaDoorRLeT
import Derived.Deep.RegionHeld
import Derived.Deep.Cut
namespace Go.Proofs.YteblnmhaohbkkaaDoor
set_option linter.unusedVariables false
set_option linter.unusedSimpArgs false
set_option linter.unusedSectionVars false
namespace Le
open Go.RowKit Go.Sort
theorem results_row_row_tmp {P : Program} {fn : Func} {p q u : Tmp} {ty ty2 : TypeId} (h : fn.results = #[.cell p ty, .cell q ty2, .tmp u]) (tmps : Array Value) (w : World) (g : Nat) (t : TypeId) (cs : Array Value) (fr : Nat × Nat) (d : TypeDesc)
    (g2 : Nat) (t2 : TypeId) (cs2 : Array Value) (fr2 : Nat × Nat) (d2 : TypeDesc)
    (hp : tmps.getD p undef = .pointer (some ⟨g, 0, none⟩)) (hq : tmps.getD q undef = .pointer (some ⟨g2, 0, none⟩)) (hg : w.heap[g]? = some (.cells cs t fr)) (hg2 : w.heap[g2]? = some (.cells cs2 t2 fr2))
    (hu : P.underlying ty = some d) (hd : (match d with | .struct _ | .array _ _ => true | _ => false) = true) (hi : (P.info? ty).map (·.size) = some cs.size)
    (hu2 : P.underlying ty2 = some d2) (hd2 : (match d2 with | .struct _ | .array _ _ => true | _ => false) = true) (hi2 : (P.info? ty2).map (·.size) = some cs2.size) :
    (results fn tmps).run P w = .ok (.tuple #[.agg cs, .agg cs2, tmps.getD u undef]) w := by
  have e1 : tmps[p]?.getD undef = .pointer (some ⟨g, 0, none⟩) := by simpa using hp
  have e2 : tmps[q]?.getD undef = .pointer (some ⟨g2, 0, none⟩) := by simpa using hq
  simp [results, h, e1, e2, asAddr, run_loadVar_row w g t ty cs fr d hg hu hd hi, run_loadVar_row w g2 t2 ty2 cs2 fr2 d2 hg2 hu2 hd2 hi2]
theorem wp_store_row {P : Program} {a : Act} {W : World} {o : Oper} {K : Act → World → Prop} {Q : Exit → Act → World → Prop} (ty : TypeId) (x y : Operand) (ho : o.op = .store ty x y) (g : Nat) (t : TypeId) (cur cells : Array Value) (hx : a.eval x = .pointer (some ⟨g, 0, none⟩)) (hy : a.eval y = .agg cells)
    (hg : Hs.Blk W g t cur) (hi : (P.info? ty).map (·.size) = some cells.size) (hs : cur.size = cells.size) (h1 : cells.all (·.oneCell') = true)
    (hd : o.dst = none) (h : K a (W.setRow g cells)) : o.wp P a W K Q := by
  have hl : cur.toList.length = cells.size := by rw [Array.length_toList, hs]
  have q := wp_store_mid (P := P) (a := a) (W := W) (o := o) (K := K) (Q := Q) ty x y ho g 0 t cur.toList cells hx hy (by rw [Array.toArray_toList]; exact hg) hi (by omega) h1 hd
  refine q ?_
  have e : (splice cur.toList 0 cells.toList).toArray = cells := by
    unfold splice
    apply Array.ext'
    simp
    omega
  rw [e]
  exact h
theorem all3 {a b c : Value} (h1 : a.oneCell' = true) (h2 : b.oneCell' = true) (h3 : c.oneCell' = true) : (#[a, b, c] : Array Value).all (·.oneCell') = true := by
  rw [Array.all_eq_true_iff_forall_mem]
  intro v hv
  simp only [List.mem_toArray, List.mem_cons, List.not_mem_nil, or_false] at hv
  rcases hv with rfl | rfl | rfl <;> assumption
theorem big_grants (la mo : Int) (a : Option Addr) (n c : Nat) : BigR 24 #[.int .i64 la, .int .i64 mo, .slice a n c] := ⟨by kernel_rfl, all3 rfl rfl rfl⟩
theorem big_grant (x y z : Int) : BigR 88 #[.int .i64 x, .int .i64 y, .int .i64 z] := ⟨by kernel_rfl, all3 rfl rfl rfl⟩
theorem field1 (x1 x2 x3 : Int) (W : World) : (Instr.field 88 (.agg #[.int .i64 x1, .int .i64 x2, .int .i64 x3]) 1).run Tryd.prog W = .ok (.int .i64 x2) W := by kernel_rfl
def sealD (k2 : Int) (k3 : ByteArray) (n la u : Int) : List Nat := mkS 43 k3 [leaseP n la u k2]
theorem sealD_len (k2 : Int) (k3 : ByteArray) (n la u : Int) : (sealD k2 k3 n la u).length = 16 := mkS_len _ _ _
def grantR (n u : Int) (l : List Gr) : Gr := (n, (rowL n l).2.1, max (rowL n l).2.2 u)
theorem valid_any_key (x : Rw) (w : World) : Calls Tryd.prog 38 #[.agg (encR x).toArray] w fun e w' => e = .returned (.bool (keyB x)) ∧ Below w.heap.size w w' := Go.Proofs.YteblnmhaohbkkaaDoor.valid_any x w
set_option maxRecDepth 100000 in
set_option maxHeartbeats 4000000 in
theorem grant_state (la mo : Int) (a : Option Addr) (c : Nat) (l : List Gr) (k2 : Int) (k3 : ByteArray) (k4 k5 n lo hi len : Int) (w : World) (hp : GrA w a l) (hm : l.length ≤ 1000000) (ok : GsOk la mo l) (hs : 0 ≤ n ∧ n < 64) (hq : perB lo hi = true) (hl : 1 ≤ len ∧ len ≤ mo) (hk : keyB (1, k2, k3, k4, k5) = true) (h2 : (rowL n l).2.1 < la) :
    Calls Tryd.prog 11 #[.agg #[.int .i64 la, .int .i64 mo, .slice a l.length c], .agg #[.int .i64 1, .int .i64 k2, .string k3, .int .i64 k4, .int .i64 k5], .int .i64 n, per lo hi, .int .i64 len] w fun e w' => e = .returned (.tuple #[.agg #[.int .i64 0, .int .i64 0, .slice none 0 0], .agg leaseZ, .int .i64 4]) ∧ Below w.heap.size w w' := by
  have HP := Lib.hid hp
  have VA := Lib.hid (fun (X : World) (h : GrA X a l) => valid_any la mo a c l X h (by omega))
  have ev : validB la mo l = true := decide_eq_true ok
  rw [ev] at VA
  have IS := Lib.hid (fun (X : World) => isSite_yes hs X)
  have PE := Lib.hid (fun (X : World) => period_any lo hi X)
  rw [hq] at PE
  have WI := Lib.hid (fun (X : World) => within_yes hl X)
  have KV := Lib.hid (fun (X : World) => valid_any_key (1, k2, k3, k4, k5) X)
  rw [hk] at KV
  simp only [encR] at KV
  have GO := Lib.hid (fun (X : World) (h : GrA X a l) => grantOf_any la mo a c l n X h ok.ord hm)
  have RS := Lib.hid (rowL_site n l)
  have RK := Lib.hid (rowL_ok ok hs)
  obtain ⟨⟨x1, x2, x3⟩, hx⟩ : ∃ x, rowL n l = x := ⟨_, rfl⟩
  rw [hx] at GO RS RK h2
  have e1 : x1 = n := RS.out
  subst e1
  simp only [encG] at GO
  clear hx RS
  have h2b : x2 < la := h2
  clear h2
  have t2 : decide (x2 < la) = true := decide_eq_true h2b
  obtain ⟨N, hN⟩ : ∃ N, l.length = N := ⟨_, rfl⟩
  have HE := Lib.hid hN
  simp only [hN] at VA GO
  rw [hN]
  clear hp hm ev hN ok hs hq hl hk h2b RK
  obtain ⟨G, hG⟩ : ∃ G, w.heap.size = G := ⟨_, rfl⟩
  have HG := Lib.hid hG
  have BGs := Lib.hid (show BigR 38 (leaseZ) from big_leaseZ)
  obtain ⟨w0, hw0, Kg, Kk, Kp, Kr, Ks, B⟩ : ∃ X, (((((w.alloc (.cells #[.int .i64 la, .int .i64 mo, .slice a N c] 24)).alloc (.cells #[.int .i64 1, .int .i64 k2, .string k3, .int .i64 k4, .int .i64 k5] 26)).alloc (.cells #[.int .i64 lo, .int .i64 hi] 28)).alloc (.cells #[.int .i64 0, .int .i64 0, .slice none 0 0] 24)).alloc (.cells #[.int .i64 0, .int .i64 0, .int .i64 0, .int .i64 0, .int .u8 0, .int .u8 0, .int .u8 0, .int .u8 0, .int .u8 0, .int .u8 0, .int .u8 0, .int .u8 0, .int .u8 0, .int .u8 0, .int .u8 0, .int .u8 0, .int .u8 0, .int .u8 0, .int .u8 0, .int .u8 0] 38)) = X ∧ Hid (Blk X (G) 24 #[.int .i64 la, .int .i64 mo, .slice a N c]) ∧ Hid (Blk X (G + 1) 26 #[.int .i64 1, .int .i64 k2, .string k3, .int .i64 k4, .int .i64 k5]) ∧ Hid (Blk X (G + 1 + 1) 28 #[.int .i64 lo, .int .i64 hi]) ∧ Hid (Blk X (G + 1 + 1 + 1) 24 #[.int .i64 0, .int .i64 0, .slice none 0 0]) ∧ Hid (Blk X (G + 1 + 1 + 1 + 1) 38 (leaseZ)) ∧ Hid (Below w.heap.size w X) := ⟨_, rfl, Lib.hid (((((Blk.new' _ _ _ _ hG rfl).alloc _).alloc _).alloc _).alloc _), Lib.hid ((((Blk.new' _ _ _ _ (by rw [World.size_alloc, hG]) rfl).alloc _).alloc _).alloc _), Lib.hid (((Blk.new' _ _ _ _ (by rw [World.size_alloc, World.size_alloc, hG]) rfl).alloc _).alloc _), Lib.hid ((Blk.new' _ _ _ _ (by rw [World.size_alloc, World.size_alloc, World.size_alloc, hG]) rfl).alloc _), Lib.hid (Blk.new' _ _ _ _ (by rw [World.size_alloc, World.size_alloc, World.size_alloc, World.size_alloc, hG]) rfl), Lib.hid (by (repeat' (first | (with_reducible exact Below.refl _ _) | (with_reducible assumption) | (with_reducible refine Below.alloc ?_ ?_ _) | (with_reducible refine Below.drew ?_) | (with_reducible refine below_dn ?_) | (with_reducible refine Below.setCell ?_ ?_ _) | (with_reducible exact Nat.le_refl _) | omega | (simp only [World.size_alloc, World.size_setCell, World.size_drew]; omega) | (simp; omega) | (simp; done))))⟩
  go_enter Tryd.func11, Tryd.ntmps11
  go_upto_region 1 with (fail)
  try rw [hG]
  try rw [hw0]
  clear hw0 hG
  obtain ⟨bgc0, bgc1, bgc2⟩ := three Kg.out
  obtain ⟨bkc0, bkc1, bkc2, bkc3, bkc4⟩ := five Kk.out
  obtain ⟨bpc0, bpc1⟩ := twob Kp.out
  obtain ⟨brc0, brc1, brc2⟩ := three Kr.out
  go_wp2_with (fail)
  refine (VA.out _ (HP.out.mono B.out)).mono ?_
  rintro e w1 ⟨rfl, hb⟩
  replace Kg := Lib.hid (Kg.out.below hb Kg.out.lt)
  replace Kk := Lib.hid (Kk.out.below hb Kk.out.lt)
  replace Kp := Lib.hid (Kp.out.below hb Kp.out.lt)
  replace Kr := Lib.hid (Kr.out.below hb Kr.out.lt)
  replace Ks := Lib.hid (Ks.out.below hb Ks.out.lt)
  replace B := Lib.hid (B.out.trans (hb.mono B.out.size))
  clear bgc0 bgc1 bgc2 bkc0 bkc1 bkc2 bkc3 bkc4 bpc0 bpc1 brc0 brc1 brc2
  clear hb
  obtain ⟨bgc0, bgc1, bgc2⟩ := three Kg.out
  obtain ⟨bkc0, bkc1, bkc2, bkc3, bkc4⟩ := five Kk.out
  obtain ⟨bpc0, bpc1⟩ := twob Kp.out
  obtain ⟨brc0, brc1, brc2⟩ := three Kr.out
  go_wp2_with (fail)
  refine (IS.out _).mono ?_
  rintro e wz ⟨rfl, rfl⟩
  go_wp2_with (fail)
  refine (PE.out _).mono ?_
  rintro e w2 ⟨rfl, hb⟩
  replace Kg := Lib.hid (Kg.out.below hb Kg.out.lt)
  replace Kk := Lib.hid (Kk.out.below hb Kk.out.lt)
  replace Kp := Lib.hid (Kp.out.below hb Kp.out.lt)
  replace Kr := Lib.hid (Kr.out.below hb Kr.out.lt)
  replace Ks := Lib.hid (Ks.out.below hb Ks.out.lt)
  replace B := Lib.hid (B.out.trans (hb.mono B.out.size))
  clear bgc0 bgc1 bgc2 bkc0 bkc1 bkc2 bkc3 bkc4 bpc0 bpc1 brc0 brc1 brc2
  clear hb
  obtain ⟨bgc0, bgc1, bgc2⟩ := three Kg.out
  obtain ⟨bkc0, bkc1, bkc2, bkc3, bkc4⟩ := five Kk.out
  obtain ⟨bpc0, bpc1⟩ := twob Kp.out
  obtain ⟨brc0, brc1, brc2⟩ := three Kr.out
  go_wp2_with (fail)
  refine (WI.out _).mono ?_
  rintro e wz ⟨rfl, rfl⟩
  go_wp2_with (fail)
  refine (KV.out _).mono ?_
  rintro e w3 ⟨rfl, hb⟩
  replace Kg := Lib.hid (Kg.out.below hb Kg.out.lt)
  replace Kk := Lib.hid (Kk.out.below hb Kk.out.lt)
  replace Kp := Lib.hid (Kp.out.below hb Kp.out.lt)
  replace Kr := Lib.hid (Kr.out.below hb Kr.out.lt)
  replace Ks := Lib.hid (Ks.out.below hb Ks.out.lt)
  replace B := Lib.hid (B.out.trans (hb.mono B.out.size))
  clear bgc0 bgc1 bgc2 bkc0 bkc1 bkc2 bkc3 bkc4 bpc0 bpc1 brc0 brc1 brc2
  clear hb
  obtain ⟨bgc0, bgc1, bgc2⟩ := three Kg.out
  obtain ⟨bkc0, bkc1, bkc2, bkc3, bkc4⟩ := five Kk.out
  obtain ⟨bpc0, bpc1⟩ := twob Kp.out
  obtain ⟨brc0, brc1, brc2⟩ := three Kr.out
  clear bgc0 bgc1 bgc2 bkc0 bkc1 bkc2 bkc3 bkc4 bpc0 bpc1 brc0 brc1 brc2
  obtain ⟨bgc0, bgc1, bgc2⟩ := three Kg.out
  obtain ⟨bkc0, bkc1, bkc2, bkc3, bkc4⟩ := five Kk.out
  obtain ⟨bpc0, bpc1⟩ := twob Kp.out
  obtain ⟨brc0, brc1, brc2⟩ := three Kr.out
  go_wp2_with fail
  have QO := Lib.hid (fun (d : Nat) (os : Array Obj) => GO.out (grow (redrawn w3 d) os) (HP.out.mono (bt B.out (below_regrown w3 d os))))
  have gc := grow_cell3
  have FF := field1 x1 x2 x3
  have zzg := Kg.out.lt
  have zzk := Kk.out.lt
  have zzp := Kp.out.lt
  have zzr := Kr.out.lt
  have zzs := Ks.out.lt
  refine wp_region_quiet_below (by kernel_rfl) (by kernel_rfl) ?_
  repeat (go_big_quiet_step (first | (with_reducible exact Calls.regrown_of (QO.out _ _))))
  refine wpQuiet_nil ?_
  intro w4 hw'
  obtain ⟨⟨dq, osq⟩, hw''⟩ := hw'
  have hb := below_of_grow3 hw''
  clear hw'' gc QO FF zzg zzk zzp zzr zzs
  replace Kg := Lib.hid (Kg.out.below hb Kg.out.lt)
  replace Kk := Lib.hid (Kk.out.below hb Kk.out.lt)
  replace Kp := Lib.hid (Kp.out.below hb Kp.out.lt)
  replace Kr := Lib.hid (Kr.out.below hb Kr.out.lt)
  replace Ks := Lib.hid (Ks.out.below hb Ks.out.lt)
  replace B := Lib.hid (B.out.trans (hb.mono B.out.size))
  clear hb
  clear bgc0 bgc1 bgc2 bkc0 bkc1 bkc2 bkc3 bkc4 bpc0 bpc1 brc0 brc1 brc2
  obtain ⟨bgc0, bgc1, bgc2⟩ := three Kg.out
  obtain ⟨bkc0, bkc1, bkc2, bkc3, bkc4⟩ := five Kk.out
  obtain ⟨bpc0, bpc1⟩ := twob Kp.out
  obtain ⟨brc0, brc1, brc2⟩ := three Kr.out
  clear bgc0 bgc1 bgc2 bkc0 bkc1 bkc2 bkc3 bkc4 bpc0 bpc1 brc0 brc1 brc2
  obtain ⟨bgc0, bgc1, bgc2⟩ := three Kg.out
  obtain ⟨bkc0, bkc1, bkc2, bkc3, bkc4⟩ := five Kk.out
  obtain ⟨bpc0, bpc1⟩ := twob Kp.out
  obtain ⟨brc0, brc1, brc2⟩ := three Kr.out
  have fzg := fun q => Kg.out.frozen q
  have fzk := fun q => Kk.out.frozen q
  have fzp := fun q => Kp.out.frozen q
  have fzr := fun q => Kr.out.frozen q
  have Kr9 := Kr
  have Ks9 := Ks
  have B9 := B
  replace Kr9 := Lib.hid (show Blk (w4.setCell ⟨G + 1 + 1 + 1, 0, none⟩ (.int .i64 0)) (G + 1 + 1 + 1) 24 #[.int .i64 0, .int .i64 0, .slice none 0 0] from Kr9.out.set_ 0 (.int .i64 0))
  replace Ks9 := Lib.hid (show Blk (w4.setCell ⟨G + 1 + 1 + 1, 0, none⟩ (.int .i64 0)) (G + 1 + 1 + 1 + 1) 38 leaseZ from Ks9.out.far (p := ⟨G + 1 + 1 + 1, 0, none⟩) (by simp; try omega) (.int .i64 0))
  replace B9 := Lib.hid (show Below w.heap.size w (w4.setCell ⟨G + 1 + 1 + 1, 0, none⟩ (.int .i64 0)) from B9.out.setCell (p := ⟨G + 1 + 1 + 1, 0, none⟩) (show w.heap.size ≤ G + 1 + 1 + 1 by have := HG.out; omega) (.int .i64 0))
  replace Kr9 := Lib.hid (show Blk ((w4.setCell ⟨G + 1 + 1 + 1, 0, none⟩ (.int .i64 0)).setCell ⟨G + 1 + 1 + 1, 1, none⟩ (.int .i64 0)) (G + 1 + 1 + 1) 24 #[.int .i64 0, .int .i64 0, .slice none 0 0] from Kr9.out.set_ 1 (.int .i64 0))
  replace Ks9 := Lib.hid (show Blk ((w4.setCell ⟨G + 1 + 1 + 1, 0, none⟩ (.int .i64 0)).setCell ⟨G + 1 + 1 + 1, 1, none⟩ (.int .i64 0)) (G + 1 + 1 + 1 + 1) 38 leaseZ from Ks9.out.far (p := ⟨G + 1 + 1 + 1, 1, none⟩) (by simp; try omega) (.int .i64 0))
  replace B9 := Lib.hid (show Below w.heap.size w ((w4.setCell ⟨G + 1 + 1 + 1, 0, none⟩ (.int .i64 0)).setCell ⟨G + 1 + 1 + 1, 1, none⟩ (.int .i64 0)) from B9.out.setCell (p := ⟨G + 1 + 1 + 1, 1, none⟩) (show w.heap.size ≤ G + 1 + 1 + 1 by have := HG.out; omega) (.int .i64 0))
  replace Kr9 := Lib.hid (show Blk (((w4.setCell ⟨G + 1 + 1 + 1, 0, none⟩ (.int .i64 0)).setCell ⟨G + 1 + 1 + 1, 1, none⟩ (.int .i64 0)).setCell ⟨G + 1 + 1 + 1, 2, none⟩ (.slice none 0 0)) (G + 1 + 1 + 1) 24 #[.int .i64 0, .int .i64 0, .slice none 0 0] from Kr9.out.set_ 2 (.slice none 0 0))
  replace Ks9 := Lib.hid (show Blk (((w4.setCell ⟨G + 1 + 1 + 1, 0, none⟩ (.int .i64 0)).setCell ⟨G + 1 + 1 + 1, 1, none⟩ (.int .i64 0)).setCell ⟨G + 1 + 1 + 1, 2, none⟩ (.slice none 0 0)) (G + 1 + 1 + 1 + 1) 38 leaseZ from Ks9.out.far (p := ⟨G + 1 + 1 + 1, 2, none⟩) (by simp; try omega) (.slice none 0 0))
  replace B9 := Lib.hid (show Below w.heap.size w (((w4.setCell ⟨G + 1 + 1 + 1, 0, none⟩ (.int .i64 0)).setCell ⟨G + 1 + 1 + 1, 1, none⟩ (.int .i64 0)).setCell ⟨G + 1 + 1 + 1, 2, none⟩ (.slice none 0 0)) from B9.out.setCell (p := ⟨G + 1 + 1 + 1, 2, none⟩) (show w.heap.size ≤ G + 1 + 1 + 1 by have := HG.out; omega) (.slice none 0 0))
  go_wp2_with (first | (with_reducible refine Hs.wpList_store_blk rfl 38 _ _ rfl (G + 1 + 1 + 1 + 1) 38 leaseZ (leaseZ) rfl rfl (Blk.hs Ks9.out) BGs.out.info (BGs.out.same BGs.out) BGs.out.one rfl ?_))
  refine bodyPost_ret (results_row_row_tmp rfl _ _ (G + 1 + 1 + 1) 24 (#[.int .i64 0, .int .i64 0, .slice none 0 0]) (0, 0) _ (G + 1 + 1 + 1 + 1) 38 (leaseZ) (0, 0) _ rfl rfl (Kr9.out.rowfar (by omega) _) (Ks9.out.row_ _) Tryd.underlying24 rfl (big_grants _ _ _ _ _).info Tryd.underlying38 rfl BGs.out.info) rfl ?_
  have BZ := below_setRow B9.out (show w.heap.size ≤ G + 1 + 1 + 1 + 1 by have := HG.out; omega) (leaseZ)
  exact ⟨rfl, BZ⟩
set_option maxRecDepth 100000 in
set_option maxHeartbeats 4000000 in
theorem grant_ok (la mo : Int) (a : Option Addr) (c : Nat) (l : List Gr) (k2 : Int) (k3 : ByteArray) (k4 k5 n lo hi len : Int) (w : World) (hp : GrA w a l) (hm : l.length ≤ 1000000) (ok : GsOk la mo l) (hs : 0 ≤ n ∧ n < 64) (hq : perB lo hi = true) (hl : 1 ≤ len ∧ len ≤ mo) (hk : keyB (1, k2, k3, k4, k5) = true) (h2 : ¬ (rowL n l).2.1 < la) (h3 : ¬ 1099511627776 < lo + len) (hla : Hs.LaidC w) :
    Calls Tryd.prog 11 #[.agg #[.int .i64 la, .int .i64 mo, .slice a l.length c], .agg #[.int .i64 1, .int .i64 k2, .string k3, .int .i64 k4, .int .i64 k5], .int .i64 n, per lo hi, .int .i64 len] w fun e w' => (∃ a' c', e = .returned (.tuple #[.agg #[.int .i64 la, .int .i64 mo, .slice a' (withL (grantR n (lo + len) l) l).length c'], .agg (leaseC n la (lo + len) k2 (sealD k2 k3 n la (lo + len))), .int .i64 0]) ∧ GrA w' a' (withL (grantR n (lo + len) l) l) ∧ ∀ p, a' = some p → w.heap.size ≤ p.block) ∧ Below w.heap.size w w' := by
  have HP := Lib.hid hp
  have VA := Lib.hid (fun (X : World) (h : GrA X a l) => valid_any la mo a c l X h (by omega))
  have ev : validB la mo l = true := decide_eq_true ok
  rw [ev] at VA
  have IS := Lib.hid (fun (X : World) => isSite_yes hs X)
  have PE := Lib.hid (fun (X : World) => period_any lo hi X)
  rw [hq] at PE
  have WI := Lib.hid (fun (X : World) => within_yes hl X)
  have KV := Lib.hid (fun (X : World) => valid_any_key (1, k2, k3, k4, k5) X)
  rw [hk] at KV
  simp only [encR] at KV
  have GO := Lib.hid (fun (X : World) (h : GrA X a l) => grantOf_any la mo a c l n X h ok.ord hm)
  have RS := Lib.hid (rowL_site n l)
  have RK := Lib.hid (rowL_ok ok hs)
  have GRD := Lib.hid (show grantR n (lo + len) l = (n, (rowL n l).2.1, max (rowL n l).2.2 (lo + len)) from rfl)
  have WT := Lib.hid (fun (X : World) (h : GrA X a l) => with_any la mo a c l (grantR n (lo + len) l) X h ok.ord (by have := ok.few; omega))
  have SD := Lib.hid (show sealD k2 k3 n la (lo + len) = mkS 43 k3 [leaseP n la (lo + len) k2] from rfl)
  have C5 := Lib.hid (fun (X : World) (h : Hs.LaidC X) => (sealLease_any (1, k2, k3, k4, k5) n la (lo + len) 0 (List.replicate 16 0) X rfl (by unfold i64Ok; omega) (by have := ok.la0; unfold i64Ok; omega) (by have := of_decide_eq_true hq; have := ok.mo1; unfold i64Ok; omega) (by have := (of_decide_eq_true hk).2.1; unfold i64Ok; omega) (by have := (of_decide_eq_true hk).2.2.1; omega) h : Calls Tryd.prog 39 #[.agg #[.int .i64 1, .int .i64 k2, .string k3, .int .i64 k4, .int .i64 k5], .agg #[.int .i64 n, .int .i64 la, .int .i64 (lo + len), .int .i64 0, .int .u8 0, .int .u8 0, .int .u8 0, .int .u8 0, .int .u8 0, .int .u8 0, .int .u8 0, .int .u8 0, .int .u8 0, .int .u8 0, .int .u8 0, .int .u8 0, .int .u8 0, .int .u8 0, .int .u8 0, .int .u8 0]] X fun e w' => e = .returned (.agg (leaseC n la (lo + len) k2 (mkS 43 k3 [leaseP n la (lo + len) k2]))) ∧ Below X.heap.size X w'))
  simp only [← SD.out] at C5
  obtain ⟨D, hD⟩ : ∃ D, sealD k2 k3 n la (lo + len) = D := ⟨_, rfl⟩
  have hDl : D.length = 16 := by rw [← hD]; exact sealD_len _ _ _ _ _
  simp only [hD] at C5
  rw [hD]
  have HLA := Lib.hid hla
  clear SD hD hla
  obtain ⟨⟨x1, x2, x3⟩, hx⟩ : ∃ x, rowL n l = x := ⟨_, rfl⟩
  rw [hx] at GO RS RK GRD h2
  have e1 : x1 = n := RS.out
  subst e1
  simp only [encG] at GO
  clear hx RS
  rw [GRD.out] at WT ⊢
  simp only [encG] at WT
  obtain ⟨L2, hL2⟩ : ∃ L2, withL (x1, x2, max x3 (lo + len)) l = L2 := ⟨_, rfl⟩
  rw [hL2]
  simp only [hL2] at WT
  clear hL2 GRD
  have h2b : ¬ x2 < la := h2
  clear h2
  have t2 : decide (x2 < la) = false := decide_eq_false h2b
  have wl : IntKind.i64.wrap (lo + len) = lo + len := by have := of_decide_eq_true hq; have := ok.mo1; rw [IntKind.wrap_i64]; omega
  have t3 : decide (1099511627776 < lo + len) = false := decide_eq_false h3
  obtain ⟨u, hu⟩ : ∃ u, lo + len = u := ⟨_, rfl⟩
  rw [hu] at wl t3 C5 WT ⊢
  obtain ⟨m, hm2⟩ : ∃ m, max x3 u = m := ⟨_, rfl⟩
  rw [hm2] at WT
  obtain ⟨N, hN⟩ : ∃ N, l.length = N := ⟨_, rfl⟩
  have HE := Lib.hid hN
  simp only [hN] at VA GO WT
  rw [hN]
  have BN := Lib.hid (big_lease (s := x1) (e := la) (u := u) (r := k2) hDl)
  have LC := Lib.hid (fun (X : World) (g : Nat) (h : Blk X g 38 (leaseC x1 la u k2 D)) => lease_cells h)
  clear hp hm ev h3 hN ok hs hq hl hk h2b RK hDl
  obtain ⟨G, hG⟩ : ∃ G, w.heap.size = G := ⟨_, rfl⟩
  have HG := Lib.hid hG
  have BGs := Lib.hid (show BigR 38 (leaseZ) from big_leaseZ)
  obtain ⟨w0, hw0, Kg, Kk, Kp, Kr, Ks, B⟩ : ∃ X, (((((w.alloc (.cells #[.int .i64 la, .int .i64 mo, .slice a N c] 24)).alloc (.cells #[.int .i64 1, .int .i64 k2, .string k3, .int .i64 k4, .int .i64 k5] 26)).alloc (.cells #[.int .i64 lo, .int .i64 hi] 28)).alloc (.cells #[.int .i64 0, .int .i64 0, .slice none 0 0] 24)).alloc (.cells #[.int .i64 0, .int .i64 0, .int .i64 0, .int .i64 0, .int .u8 0, .int .u8 0, .int .u8 0, .int .u8 0, .int .u8 0, .int .u8 0, .int .u8 0, .int .u8 0, .int .u8 0, .int .u8 0, .int .u8 0, .int .u8 0, .int .u8 0, .int .u8 0, .int .u8 0, .int .u8 0] 38)) = X ∧ Hid (Blk X (G) 24 #[.int .i64 la, .int .i64 mo, .slice a N c]) ∧ Hid (Blk X (G + 1) 26 #[.int .i64 1, .int .i64 k2, .string k3, .int .i64 k4, .int .i64 k5]) ∧ Hid (Blk X (G + 1 + 1) 28 #[.int .i64 lo, .int .i64 hi]) ∧ Hid (Blk X (G + 1 + 1 + 1) 24 #[.int .i64 0, .int .i64 0, .slice none 0 0]) ∧ Hid (Blk X (G + 1 + 1 + 1 + 1) 38 (leaseZ)) ∧ Hid (Below w.heap.size w X) := ⟨_, rfl, Lib.hid (((((Blk.new' _ _ _ _ hG rfl).alloc _).alloc _).alloc _).alloc _), Lib.hid ((((Blk.new' _ _ _ _ (by rw [World.size_alloc, hG]) rfl).alloc _).alloc _).alloc _), Lib.hid (((Blk.new' _ _ _ _ (by rw [World.size_alloc, World.size_alloc, hG]) rfl).alloc _).alloc _), Lib.hid ((Blk.new' _ _ _ _ (by rw [World.size_alloc, World.size_alloc, World.size_alloc, hG]) rfl).alloc _), Lib.hid (Blk.new' _ _ _ _ (by rw [World.size_alloc, World.size_alloc, World.size_alloc, World.size_alloc, hG]) rfl), Lib.hid (by (repeat' (first | (with_reducible exact Below.refl _ _) | (with_reducible assumption) | (with_reducible refine Below.alloc ?_ ?_ _) | (with_reducible refine Below.drew ?_) | (with_reducible refine below_dn ?_) | (with_reducible refine Below.setCell ?_ ?_ _) | (with_reducible exact Nat.le_refl _) | omega | (simp only [World.size_alloc, World.size_setCell, World.size_drew]; omega) | (simp; omega) | (simp; done))))⟩
  go_enter Tryd.func11, Tryd.ntmps11
  go_upto_region 1 with (fail)
  try rw [hG]
  try rw [hw0]
  clear hw0 hG
  obtain ⟨bgc0, bgc1, bgc2⟩ := three Kg.out
  obtain ⟨bkc0, bkc1, bkc2, bkc3, bkc4⟩ := five Kk.out
  obtain ⟨bpc0, bpc1⟩ := twob Kp.out
  obtain ⟨brc0, brc1, brc2⟩ := three Kr.out
  go_wp2_with (fail)
  refine (VA.out _ (HP.out.mono B.out)).mono ?_
  rintro e w1 ⟨rfl, hb⟩
  replace Kg := Lib.hid (Kg.out.below hb Kg.out.lt)
  replace Kk := Lib.hid (Kk.out.below hb Kk.out.lt)
  replace Kp := Lib.hid (Kp.out.below hb Kp.out.lt)
  replace Kr := Lib.hid (Kr.out.below hb Kr.out.lt)
  replace Ks := Lib.hid (Ks.out.below hb Ks.out.lt)
  replace B := Lib.hid (B.out.trans (hb.mono B.out.size))
  clear bgc0 bgc1 bgc2 bkc0 bkc1 bkc2 bkc3 bkc4 bpc0 bpc1 brc0 brc1 brc2
  clear hb
  obtain ⟨bgc0, bgc1, bgc2⟩ := three Kg.out
  obtain ⟨bkc0, bkc1, bkc2, bkc3, bkc4⟩ := five Kk.out
  obtain ⟨bpc0, bpc1⟩ := twob Kp.out
  obtain ⟨brc0, brc1, brc2⟩ := three Kr.out
  go_wp2_with (fail)
  refine (IS.out _).mono ?_
  rintro e wz ⟨rfl, rfl⟩
  go_wp2_with (fail)
  refine (PE.out _).mono ?_
  rintro e w2 ⟨rfl, hb⟩
  replace Kg := Lib.hid (Kg.out.below hb Kg.out.lt)
  replace Kk := Lib.hid (Kk.out.below hb Kk.out.lt)
  replace Kp := Lib.hid (Kp.out.below hb Kp.out.lt)
  replace Kr := Lib.hid (Kr.out.below hb Kr.out.lt)
  replace Ks := Lib.hid (Ks.out.below hb Ks.out.lt)
  replace B := Lib.hid (B.out.trans (hb.mono B.out.size))
  clear bgc0 bgc1 bgc2 bkc0 bkc1 bkc2 bkc3 bkc4 bpc0 bpc1 brc0 brc1 brc2
  clear hb
  obtain ⟨bgc0, bgc1, bgc2⟩ := three Kg.out
  obtain ⟨bkc0, bkc1, bkc2, bkc3, bkc4⟩ := five Kk.out
  obtain ⟨bpc0, bpc1⟩ := twob Kp.out
  obtain ⟨brc0, brc1, brc2⟩ := three Kr.out
  go_wp2_with (fail)
  refine (WI.out _).mono ?_
  rintro e wz ⟨rfl, rfl⟩
  go_wp2_with (fail)
  refine (KV.out _).mono ?_
  rintro e w3 ⟨rfl, hb⟩
  replace Kg := Lib.hid (Kg.out.below hb Kg.out.lt)
  replace Kk := Lib.hid (Kk.out.below hb Kk.out.lt)
  replace Kp := Lib.hid (Kp.out.below hb Kp.out.lt)
  replace Kr := Lib.hid (Kr.out.below hb Kr.out.lt)
  replace Ks := Lib.hid (Ks.out.below hb Ks.out.lt)
  replace B := Lib.hid (B.out.trans (hb.mono B.out.size))
  clear bgc0 bgc1 bgc2 bkc0 bkc1 bkc2 bkc3 bkc4 bpc0 bpc1 brc0 brc1 brc2
  clear hb
  obtain ⟨bgc0, bgc1, bgc2⟩ := three Kg.out
  obtain ⟨bkc0, bkc1, bkc2, bkc3, bkc4⟩ := five Kk.out
  obtain ⟨bpc0, bpc1⟩ := twob Kp.out
  obtain ⟨brc0, brc1, brc2⟩ := three Kr.out
  clear bgc0 bgc1 bgc2 bkc0 bkc1 bkc2 bkc3 bkc4 bpc0 bpc1 brc0 brc1 brc2
  obtain ⟨bgc0, bgc1, bgc2⟩ := three Kg.out
  obtain ⟨bkc0, bkc1, bkc2, bkc3, bkc4⟩ := five Kk.out
  obtain ⟨bpc0, bpc1⟩ := twob Kp.out
  obtain ⟨brc0, brc1, brc2⟩ := three Kr.out
  go_wp2_with fail
  have QO := Lib.hid (fun (d : Nat) (os : Array Obj) => GO.out (grow (redrawn w3 d) os) (HP.out.mono (bt B.out (below_regrown w3 d os))))
  have gc := grow_cell3
  have FF := field1 x1 x2 x3
  have zzg := Kg.out.lt
  have zzk := Kk.out.lt
  have zzp := Kp.out.lt
  have zzr := Kr.out.lt
  have zzs := Ks.out.lt
  refine wp_region_quiet_below (by kernel_rfl) (by kernel_rfl) ?_
  repeat (go_big_quiet_step (first | (with_reducible exact Calls.regrown_of (QO.out _ _))))
  refine wpQuiet_nil ?_
  intro w4 hw'
  obtain ⟨⟨dq, osq⟩, hw''⟩ := hw'
  have hb := below_of_grow3 hw''
  clear hw'' gc QO FF zzg zzk zzp zzr zzs
  replace Kg := Lib.hid (Kg.out.below hb Kg.out.lt)
  replace Kk := Lib.hid (Kk.out.below hb Kk.out.lt)
  replace Kp := Lib.hid (Kp.out.below hb Kp.out.lt)
  replace Kr := Lib.hid (Kr.out.below hb Kr.out.lt)
  replace Ks := Lib.hid (Ks.out.below hb Ks.out.lt)
  replace B := Lib.hid (B.out.trans (hb.mono B.out.size))
  clear hb
  clear bgc0 bgc1 bgc2 bkc0 bkc1 bkc2 bkc3 bkc4 bpc0 bpc1 brc0 brc1 brc2
  obtain ⟨bgc0, bgc1, bgc2⟩ := three Kg.out
  obtain ⟨bkc0, bkc1, bkc2, bkc3, bkc4⟩ := five Kk.out
  obtain ⟨bpc0, bpc1⟩ := twob Kp.out
  obtain ⟨brc0, brc1, brc2⟩ := three Kr.out
  go_wp2_with fail
  refine (C5.out _ (HLA.out.below B.out)).mono ?_
  rintro e w5 ⟨rfl, hb⟩
  replace Kg := Lib.hid (Kg.out.below hb Kg.out.lt)
  replace Kk := Lib.hid (Kk.out.below hb Kk.out.lt)
  replace Kp := Lib.hid (Kp.out.below hb Kp.out.lt)
  replace Kr := Lib.hid (Kr.out.below hb Kr.out.lt)
  replace Ks := Lib.hid (Ks.out.below hb Ks.out.lt)
  replace B := Lib.hid (B.out.trans (hb.mono B.out.size))
  clear bgc0 bgc1 bgc2 bkc0 bkc1 bkc2 bkc3 bkc4 bpc0 bpc1 brc0 brc1 brc2
  clear hb C5
  obtain ⟨gl, hgl⟩ : ∃ g, w5.heap.size = g := ⟨_, rfl⟩
  have KZ := Lib.hid (show Blk (w5.alloc (.cells #[.int .i64 0, .int .i64 0, .int .i64 0, .int .i64 0, .int .u8 0, .int .u8 0, .int .u8 0, .int .u8 0, .int .u8 0, .int .u8 0, .int .u8 0, .int .u8 0, .int .u8 0, .int .u8 0, .int .u8 0, .int .u8 0, .int .u8 0, .int .u8 0, .int .u8 0, .int .u8 0] 38)) gl 38 leaseZ from Blk.new' w5 _ _ _ hgl rfl)
  have Kl := Lib.hid (show Blk ((w5.alloc (.cells #[.int .i64 0, .int .i64 0, .int .i64 0, .int .i64 0, .int .u8 0, .int .u8 0, .int .u8 0, .int .u8 0, .int .u8 0, .int .u8 0, .int .u8 0, .int .u8 0, .int .u8 0, .int .u8 0, .int .u8 0, .int .u8 0, .int .u8 0, .int .u8 0, .int .u8 0, .int .u8 0] 38)).setRow gl (leaseC x1 la u k2 D)) gl 38 (leaseC x1 la u k2 D) from KZ.out.row_ _)
  have Nlg := Lib.hid (show G < gl from by rw [← hgl]; exact Kg.out.lt)
  replace Kg := Lib.hid (show Blk ((w5.alloc (.cells #[.int .i64 0, .int .i64 0, .int .i64 0, .int .i64 0, .int .u8 0, .int .u8 0, .int .u8 0, .int .u8 0, .int .u8 0, .int .u8 0, .int .u8 0, .int .u8 0, .int .u8 0, .int .u8 0, .int .u8 0, .int .u8 0, .int .u8 0, .int .u8 0, .int .u8 0, .int .u8 0] 38)).setRow gl (leaseC x1 la u k2 D)) (G) 24 #[.int .i64 la, .int .i64 mo, .slice a N c] from (Kg.out.alloc _).rowfar (by have := Nlg.out; omega) _)
  have Nlk := Lib.hid (show G + 1 < gl from by rw [← hgl]; exact Kk.out.lt)
  replace Kk := Lib.hid (show Blk ((w5.alloc (.cells #[.int .i64 0, .int .i64 0, .int .i64 0, .int .i64 0, .int .u8 0, .int .u8 0, .int .u8 0, .int .u8 0, .int .u8 0, .int .u8 0, .int .u8 0, .int .u8 0, .int .u8 0, .int .u8 0, .int .u8 0, .int .u8 0, .int .u8 0, .int .u8 0, .int .u8 0, .int .u8 0] 38)).setRow gl (leaseC x1 la u k2 D)) (G + 1) 26 #[.int .i64 1, .int .i64 k2, .string k3, .int .i64 k4, .int .i64 k5] from (Kk.out.alloc _).rowfar (by have := Nlk.out; omega) _)
  have Nlp := Lib.hid (show G + 1 + 1 < gl from by rw [← hgl]; exact Kp.out.lt)
  replace Kp := Lib.hid (show Blk ((w5.alloc (.cells #[.int .i64 0, .int .i64 0, .int .i64 0, .int .i64 0, .int .u8 0, .int .u8 0, .int .u8 0, .int .u8 0, .int .u8 0, .int .u8 0, .int .u8 0, .int .u8 0, .int .u8 0, .int .u8 0, .int .u8 0, .int .u8 0, .int .u8 0, .int .u8 0, .int .u8 0, .int .u8 0] 38)).setRow gl (leaseC x1 la u k2 D)) (G + 1 + 1) 28 #[.int .i64 lo, .int .i64 hi] from (Kp.out.alloc _).rowfar (by have := Nlp.out; omega) _)
  have Nlr := Lib.hid (show G + 1 + 1 + 1 < gl from by rw [← hgl]; exact Kr.out.lt)
  replace Kr := Lib.hid (show Blk ((w5.alloc (.cells #[.int .i64 0, .int .i64 0, .int .i64 0, .int .i64 0, .int .u8 0, .int .u8 0, .int .u8 0, .int .u8 0, .int .u8 0, .int .u8 0, .int .u8 0, .int .u8 0, .int .u8 0, .int .u8 0, .int .u8 0, .int .u8 0, .int .u8 0, .int .u8 0, .int .u8 0, .int .u8 0] 38)).setRow gl (leaseC x1 la u k2 D)) (G + 1 + 1 + 1) 24 #[.int .i64 0, .int .i64 0, .slice none 0 0] from (Kr.out.alloc _).rowfar (by have := Nlr.out; omega) _)
  have Nls := Lib.hid (show G + 1 + 1 + 1 + 1 < gl from by rw [← hgl]; exact Ks.out.lt)
  replace Ks := Lib.hid (show Blk ((w5.alloc (.cells #[.int .i64 0, .int .i64 0, .int .i64 0, .int .i64 0, .int .u8 0, .int .u8 0, .int .u8 0, .int .u8 0, .int .u8 0, .int .u8 0, .int .u8 0, .int .u8 0, .int .u8 0, .int .u8 0, .int .u8 0, .int .u8 0, .int .u8 0, .int .u8 0, .int .u8 0, .int .u8 0] 38)).setRow gl (leaseC x1 la u k2 D)) (G + 1 + 1 + 1 + 1) 38 (leaseZ) from (Ks.out.alloc _).rowfar (by have := Nls.out; omega) _)
  have Ll := Lib.hid (show w.heap.size ≤ gl from by rw [← hgl]; exact B.out.size)
  replace B := Lib.hid (show Below w.heap.size w ((w5.alloc (.cells #[.int .i64 0, .int .i64 0, .int .i64 0, .int .i64 0, .int .u8 0, .int .u8 0, .int .u8 0, .int .u8 0, .int .u8 0, .int .u8 0, .int .u8 0, .int .u8 0, .int .u8 0, .int .u8 0, .int .u8 0, .int .u8 0, .int .u8 0, .int .u8 0, .int .u8 0, .int .u8 0] 38)).setRow gl (leaseC x1 la u k2 D)) from below_setRow (B.out.alloc B.out.size _) Ll.out _)
  try rw [hgl]
  obtain ⟨bgc0, bgc1, bgc2⟩ := three Kg.out
  obtain ⟨bkc0, bkc1, bkc2, bkc3, bkc4⟩ := five Kk.out
  obtain ⟨bpc0, bpc1⟩ := twob Kp.out
  obtain ⟨brc0, brc1, brc2⟩ := three Kr.out
  go_upto_region 16 with (first | (with_reducible refine Hs.wpList_store_blk rfl 38 _ _ rfl gl 38 leaseZ (leaseC x1 la u k2 D) rfl rfl (Blk.hs KZ.out) BN.out.info (BGs.out.same BN.out) BN.out.one rfl ?_))
  try rw [hgl]
  generalize hw : ((w5.alloc (.cells #[.int .i64 0, .int .i64 0, .int .i64 0, .int .i64 0, .int .u8 0, .int .u8 0, .int .u8 0, .int .u8 0, .int .u8 0, .int .u8 0, .int .u8 0, .int .u8 0, .int .u8 0, .int .u8 0, .int .u8 0, .int .u8 0, .int .u8 0, .int .u8 0, .int .u8 0, .int .u8 0] 38)).setRow gl (leaseC x1 la u k2 D)) = w6 at Kg Kk Kp Kr Ks Kl B ⊢
  clear bgc0 bgc1 bgc2 bkc0 bkc1 bkc2 bkc3 bkc4 bpc0 bpc1 brc0 brc1 brc2
  clear hw KZ hgl
  have BGl := BN
  have Ngl := Nlg
  clear Nlg
  have Nkl := Nlk
  clear Nlk
  have Npl := Nlp
  clear Nlp
  have Nrl := Nlr
  clear Nlr
  have Nsl := Nls
  clear Nls
  obtain ⟨bgc0, bgc1, bgc2⟩ := three Kg.out
  obtain ⟨bkc0, bkc1, bkc2, bkc3, bkc4⟩ := five Kk.out
  obtain ⟨bpc0, bpc1⟩ := twob Kp.out
  obtain ⟨brc0, brc1, brc2⟩ := three Kr.out
  obtain ⟨blc0, blc1, blc2, blc3⟩ := LC.out _ _ Kl.out
  go_wp2_with (fail)
  refine (GO.out _ (HP.out.mono B.out)).mono ?_
  rintro e w7 ⟨rfl, hb⟩
  replace Kg := Lib.hid (Kg.out.below hb Kg.out.lt)
  replace Kk := Lib.hid (Kk.out.below hb Kk.out.lt)
  replace Kp := Lib.hid (Kp.out.below hb Kp.out.lt)
  replace Kr := Lib.hid (Kr.out.below hb Kr.out.lt)
  replace Ks := Lib.hid (Ks.out.below hb Ks.out.lt)
  replace Kl := Lib.hid (Kl.out.below hb Kl.out.lt)
  replace B := Lib.hid (B.out.trans (hb.mono B.out.size))
  clear bgc0 bgc1 bgc2 bkc0 bkc1 bkc2 bkc3 bkc4 bpc0 bpc1 brc0 brc1 brc2 blc0 blc1 blc2 blc3
  clear hb
  obtain ⟨bgc0, bgc1, bgc2⟩ := three Kg.out
  obtain ⟨bkc0, bkc1, bkc2, bkc3, bkc4⟩ := five Kk.out
  obtain ⟨bpc0, bpc1⟩ := twob Kp.out
  obtain ⟨brc0, brc1, brc2⟩ := three Kr.out
  obtain ⟨blc0, blc1, blc2, blc3⟩ := LC.out _ _ Kl.out
  clear bgc0 bgc1 bgc2 bkc0 bkc1 bkc2 bkc3 bkc4 bpc0 bpc1 brc0 brc1 brc2 blc0 blc1 blc2 blc3
  obtain ⟨gx, hgx⟩ : ∃ G, w7.heap.size = G := ⟨_, rfl⟩
  have Kx := Lib.hid (show Blk (w7.alloc (.cells #[.int .i64 x1, .int .i64 x2, .int .i64 x3] 88)) gx 88 #[.int .i64 x1, .int .i64 x2, .int .i64 x3] from Blk.new' w7 _ _ _ hgx rfl)
  have Ngx := Lib.hid (show G < gx from by rw [← hgx]; exact Kg.out.lt)
  replace Kg := Lib.hid (Kg.out.alloc (.cells #[.int .i64 x1, .int .i64 x2, .int .i64 x3] 88))
  have Nkx := Lib.hid (show G + 1 < gx from by rw [← hgx]; exact Kk.out.lt)
  replace Kk := Lib.hid (Kk.out.alloc (.cells #[.int .i64 x1, .int .i64 x2, .int .i64 x3] 88))
  have Npx := Lib.hid (show G + 1 + 1 < gx from by rw [← hgx]; exact Kp.out.lt)
  replace Kp := Lib.hid (Kp.out.alloc (.cells #[.int .i64 x1, .int .i64 x2, .int .i64 x3] 88))
  have Nrx := Lib.hid (show G + 1 + 1 + 1 < gx from by rw [← hgx]; exact Kr.out.lt)
  replace Kr := Lib.hid (Kr.out.alloc (.cells #[.int .i64 x1, .int .i64 x2, .int .i64 x3] 88))
  have Nsx := Lib.hid (show G + 1 + 1 + 1 + 1 < gx from by rw [← hgx]; exact Ks.out.lt)
  replace Ks := Lib.hid (Ks.out.alloc (.cells #[.int .i64 x1, .int .i64 x2, .int .i64 x3] 88))
  have Nlx := Lib.hid (show gl < gx from by rw [← hgx]; exact Kl.out.lt)
  replace Kl := Lib.hid (Kl.out.alloc (.cells #[.int .i64 x1, .int .i64 x2, .int .i64 x3] 88))
  have Lx := Lib.hid (show w.heap.size ≤ gx from by rw [← hgx]; exact B.out.size)
  replace B := Lib.hid (B.out.alloc B.out.size (.cells #[.int .i64 x1, .int .i64 x2, .int .i64 x3] 88))
  go_upto_region 17 with (fail)
  try rw [hgx]
  generalize hw : w7.alloc (.cells #[.int .i64 x1, .int .i64 x2, .int .i64 x3] 88) = w8 at Kg Kk Kp Kr Ks Kl Kx  B ⊢
  clear hw hgx
  obtain ⟨bgc0, bgc1, bgc2⟩ := three Kg.out
  obtain ⟨bkc0, bkc1, bkc2, bkc3, bkc4⟩ := five Kk.out
  obtain ⟨bpc0, bpc1⟩ := twob Kp.out
  obtain ⟨brc0, brc1, brc2⟩ := three Kr.out
  obtain ⟨blc0, blc1, blc2, blc3⟩ := LC.out _ _ Kl.out
  obtain ⟨bxc0, bxc1, bxc2⟩ := three Kx.out
  have fzx := fun q => Kx.out.frozen q
  have fzl := fun q => Kl.out.frozen q
  clear bgc0 bgc1 bgc2 bkc0 bkc1 bkc2 bkc3 bkc4 bpc0 bpc1 brc0 brc1 brc2 blc0 blc1 blc2 blc3 bxc0 bxc1 bxc2 fzx fzl
  obtain ⟨bgc0, bgc1, bgc2⟩ := three Kg.out
  obtain ⟨bkc0, bkc1, bkc2, bkc3, bkc4⟩ := five Kk.out
  obtain ⟨bpc0, bpc1⟩ := twob Kp.out
  obtain ⟨brc0, brc1, brc2⟩ := three Kr.out
  obtain ⟨blc0, blc1, blc2, blc3⟩ := LC.out _ _ Kl.out
  obtain ⟨bxc0, bxc1, bxc2⟩ := three Kx.out
  have fzx := fun q => Kx.out.frozen q
  replace Kx := Lib.hid (show Blk (w8.setCell ⟨gx, 2, none⟩ (.int .i64 m)) (gx) 88 #[.int .i64 x1, .int .i64 x2, .int .i64 m] from Kx.out.set_ 2 (.int .i64 m))
  replace Kg := Lib.hid (show Blk (w8.setCell ⟨gx, 2, none⟩ (.int .i64 m)) (G) _ _ from Kg.out.far (p := ⟨gx, 2, none⟩) (by have := Ngx.out; show G ≠ gx; omega) (.int .i64 m))
  replace Kk := Lib.hid (show Blk (w8.setCell ⟨gx, 2, none⟩ (.int .i64 m)) (G + 1) _ _ from Kk.out.far (p := ⟨gx, 2, none⟩) (by have := Nkx.out; show G + 1 ≠ gx; omega) (.int .i64 m))
  replace Kp := Lib.hid (show Blk (w8.setCell ⟨gx, 2, none⟩ (.int .i64 m)) (G + 1 + 1) _ _ from Kp.out.far (p := ⟨gx, 2, none⟩) (by have := Npx.out; show G + 1 + 1 ≠ gx; omega) (.int .i64 m))
  replace Kr := Lib.hid (show Blk (w8.setCell ⟨gx, 2, none⟩ (.int .i64 m)) (G + 1 + 1 + 1) _ _ from Kr.out.far (p := ⟨gx, 2, none⟩) (by have := Nrx.out; show G + 1 + 1 + 1 ≠ gx; omega) (.int .i64 m))
  replace Ks := Lib.hid (show Blk (w8.setCell ⟨gx, 2, none⟩ (.int .i64 m)) (G + 1 + 1 + 1 + 1) _ _ from Ks.out.far (p := ⟨gx, 2, none⟩) (by have := Nsx.out; show G + 1 + 1 + 1 + 1 ≠ gx; omega) (.int .i64 m))
  replace Kl := Lib.hid (show Blk (w8.setCell ⟨gx, 2, none⟩ (.int .i64 m)) (gl) _ _ from Kl.out.far (p := ⟨gx, 2, none⟩) (by first | (have := Nlx.out; show gl ≠ gx; omega) | (have := Nxl.out; show gl ≠ gx; omega)) (.int .i64 m))
  replace B := Lib.hid (show Below w.heap.size w (w8.setCell ⟨gx, 2, none⟩ (.int .i64 m)) from B.out.setCell (p := ⟨gx, 2, none⟩) Lx.out (.int .i64 m))
  go_upto_region 18 with (fail)
  generalize hw : (w8.setCell ⟨gx, 2, none⟩ (.int .i64 m)) = w9 at Kg Kk Kp Kr Ks Kl Kx B ⊢
  clear bgc0 bgc1 bgc2 bkc0 bkc1 bkc2 bkc3 bkc4 bpc0 bpc1 brc0 brc1 brc2 blc0 blc1 blc2 blc3 bxc0 bxc1 bxc2 fzx
  clear hw
  clear hm2
  refine wp_region_held_drew (S := fun W => Blk W G 24 #[.int .i64 la, .int .i64 mo, .slice a N c] ∧ Blk W gx 88 #[.int .i64 x1, .int .i64 x2, .int .i64 m] ∧ Blk W gl 38 (leaseC x1 la u k2 D)) (by kernel_rfl) ⟨Kg.out.drew, Kx.out.drew, Kl.out.drew⟩ (fun hHeld => ?_)
  replace Kg := Lib.hid Kg.out.drew
  replace Kk := Lib.hid Kk.out.drew
  replace Kp := Lib.hid Kp.out.drew
  replace Kr := Lib.hid Kr.out.drew
  replace Ks := Lib.hid Ks.out.drew
  replace Kl := Lib.hid Kl.out.drew
  replace Kx := Lib.hid Kx.out.drew
  replace B := Lib.hid B.out.drew
  generalize w9.drew = wd at Kg Kk Kp Kr Ks Kl Kx B hHeld ⊢
  refine wpAnyH_take (i := 0) (v := .agg #[.int .i64 la, .int .i64 mo, .slice a N c]) rfl (by kernel_rfl) (by kernel_rfl) (by kernel_rfl) (fun _ _ _ h => h) (Or.inl ⟨by rfl, fun W hW => exec_load_row 24 _ rfl G rfl 24 #[.int .i64 la, .int .i64 mo, .slice a N c] (0, 0) _ hW.1 Tryd.underlying24 rfl (big_grants _ _ _ _ _).info⟩) (by assumption) ?_
  (try simp only [Act.put, List.getElem_toArray, List.getElem_cons_succ, List.getElem_cons_zero, List.setIfInBounds_toArray, List.set_cons_zero, List.set_cons_succ])
  refine wpAnyH_take (i := 1) (v := .agg #[.int .i64 x1, .int .i64 x2, .int .i64 m]) rfl (by kernel_rfl) (by kernel_rfl) (by kernel_rfl) (fun _ _ _ h => h) (Or.inl ⟨by rfl, fun W hW => exec_load_row 88 _ rfl gx rfl 88 #[.int .i64 x1, .int .i64 x2, .int .i64 m] (0, 0) _ hW.2.1 Tryd.underlying88 rfl (big_grant _ _ _).info⟩) (by assumption) ?_
  (try simp only [Act.put, List.getElem_toArray, List.getElem_cons_succ, List.getElem_cons_zero, List.setIfInBounds_toArray, List.set_cons_zero, List.set_cons_succ])
  refine wpAnyH_take (i := 3) (v := .agg (leaseC x1 la u k2 D)) rfl (by kernel_rfl) (by kernel_rfl) (by kernel_rfl) (fun _ _ _ h => h) (Or.inl ⟨by rfl, fun W hW => exec_load_row 38 _ rfl gl rfl 38 (leaseC x1 la u k2 D) (0, 0) _ hW.2.2 Tryd.underlying38 rfl BN.out.info⟩) (by assumption) ?_
  (try simp only [Act.put, List.getElem_toArray, List.getElem_cons_succ, List.getElem_cons_zero, List.setIfInBounds_toArray, List.set_cons_zero, List.set_cons_succ])
  refine wpAnyH_ready (rs := [2]) (by kernel_rfl) (by simp) (AllReadyH.cons rfl (fun K hK => ?_) (AllReadyH.nil))
  go_simp
  refine (WT.out _ (HP.out.mono B.out)).mono ?_
  rintro e w8 ⟨⟨a6, c6, rfl, hr, hf⟩, hb⟩
  have QZ := Lib.hid Ks.out.lt
  have F6 := Lib.hid (show ∀ p, a6 = some p → p.block ≠ G + 1 + 1 + 1 ∧ p.block ≠ G + 1 + 1 + 1 + 1 ∧ w.heap.size ≤ p.block from fun p hp => by have h1 := hf p hp; have h2 := QZ.out; have := HG.out; exact ⟨by omega, by omega, by omega⟩)
  have Q6 := Lib.hid hr
  replace Kg := Lib.hid (Kg.out.below hb Kg.out.lt)
  replace Kk := Lib.hid (Kk.out.below hb Kk.out.lt)
  replace Kp := Lib.hid (Kp.out.below hb Kp.out.lt)
  replace Kr := Lib.hid (Kr.out.below hb Kr.out.lt)
  replace Ks := Lib.hid (Ks.out.below hb Ks.out.lt)
  replace Kl := Lib.hid (Kl.out.below hb Kl.out.lt)
  replace Kx := Lib.hid (Kx.out.below hb Kx.out.lt)
  replace B := Lib.hid (B.out.trans (hb.mono B.out.size))
  clear hb hr hf QZ WT
  go_wp2_with fail
  refine hK _ _ ⟨Kg.out, Kx.out, Kl.out⟩ (fun hHeld => ?_)
  clear hK K
  (try simp only [Act.put, List.getElem_toArray, List.getElem_cons_succ, List.getElem_cons_zero, List.setIfInBounds_toArray, List.set_cons_zero, List.set_cons_succ])
  refine wpAnyH_ready (rs := [4]) (by kernel_rfl) (by simp) (AllReadyH.cons rfl (fun K hK => ?_) (AllReadyH.nil))
  rw [if_pos (by rfl)]
  refine wp_store_row 24 _ _ rfl (G + 1 + 1 + 1) 24 _ #[.int .i64 la, .int .i64 mo, .slice a6 L2.length c6] rfl rfl (Blk.hs Kr.out) (big_grants _ _ _ _ _).info rfl (big_grants _ _ _ _ _).one rfl ?_
  have Nxr2 := Lib.hid (show gx ≠ G + 1 + 1 + 1 ∧ gx ≠ G + 1 + 1 + 1 + 1 from by have h1 := Nsx.out; omega)
  have Nlr2 := Lib.hid (show gl ≠ G + 1 + 1 + 1 ∧ gl ≠ G + 1 + 1 + 1 + 1 from by have h1 := Nsl.out; omega)
  replace Kr := Lib.hid (show Blk (w8.setRow (G + 1 + 1 + 1) #[.int .i64 la, .int .i64 mo, .slice a6 L2.length c6]) (G + 1 + 1 + 1) 24 #[.int .i64 la, .int .i64 mo, .slice a6 L2.length c6] from Kr.out.row_ _)
  replace Kg := Lib.hid (show Blk (w8.setRow (G + 1 + 1 + 1) #[.int .i64 la, .int .i64 mo, .slice a6 L2.length c6]) (G) _ _ from Kg.out.rowfar (by omega) _)
  replace Ks := Lib.hid (show Blk (w8.setRow (G + 1 + 1 + 1) #[.int .i64 la, .int .i64 mo, .slice a6 L2.length c6]) (G + 1 + 1 + 1 + 1) _ _ from Ks.out.rowfar (by omega) _)
  replace Kx := Lib.hid (show Blk (w8.setRow (G + 1 + 1 + 1) #[.int .i64 la, .int .i64 mo, .slice a6 L2.length c6]) (gx) _ _ from Kx.out.rowfar (by have := Nxr2.out; omega) _)
  replace Kl := Lib.hid (show Blk (w8.setRow (G + 1 + 1 + 1) #[.int .i64 la, .int .i64 mo, .slice a6 L2.length c6]) (gl) _ _ from Kl.out.rowfar (by have := Nlr2.out; omega) _)
  replace Q6 := Lib.hid (show GrA (w8.setRow (G + 1 + 1 + 1) #[.int .i64 la, .int .i64 mo, .slice a6 L2.length c6]) a6 L2 from RowsA.rowfar Q6.out (fun p hp => (F6.out p hp).1) _)
  replace B := Lib.hid (show Below w.heap.size w (w8.setRow (G + 1 + 1 + 1) #[.int .i64 la, .int .i64 mo, .slice a6 L2.length c6]) from below_setRow B.out (show w.heap.size ≤ G + 1 + 1 + 1 by have := HG.out; omega) _)
  refine hK _ _ ⟨Kg.out, Kx.out, Kl.out⟩ (fun hHeld => ?_)
  clear hK K
  (try simp only [Act.put, List.getElem_toArray, List.getElem_cons_succ, List.getElem_cons_zero, List.setIfInBounds_toArray, List.set_cons_zero, List.set_cons_succ])
  generalize (w8.setRow (G + 1 + 1 + 1) #[.int .i64 la, .int .i64 mo, .slice a6 L2.length c6]) = w9 at Kg Ks Kx Kl Kr Q6 B hHeld ⊢
  refine wpAnyH_ready (rs := [5]) (by kernel_rfl) (by simp) (AllReadyH.cons rfl (fun K hK => ?_) (AllReadyH.nil))
  rw [if_pos (by rfl)]
  refine wp_store_row 38 _ _ rfl (G + 1 + 1 + 1 + 1) 38 leaseZ (leaseC x1 la u k2 D) rfl rfl (Blk.hs Ks.out) BN.out.info (BGs.out.same BN.out) BN.out.one rfl ?_
  replace Ks := Lib.hid (show Blk (w9.setRow (G + 1 + 1 + 1 + 1) (leaseC x1 la u k2 D)) (G + 1 + 1 + 1 + 1) 38 (leaseC x1 la u k2 D) from Ks.out.row_ _)
  replace Kg := Lib.hid (show Blk (w9.setRow (G + 1 + 1 + 1 + 1) (leaseC x1 la u k2 D)) (G) _ _ from Kg.out.rowfar (by omega) _)
  replace Kr := Lib.hid (show Blk (w9.setRow (G + 1 + 1 + 1 + 1) (leaseC x1 la u k2 D)) (G + 1 + 1 + 1) _ _ from Kr.out.rowfar (by omega) _)
  replace Kx := Lib.hid (show Blk (w9.setRow (G + 1 + 1 + 1 + 1) (leaseC x1 la u k2 D)) (gx) _ _ from Kx.out.rowfar (by have := Nxr2.out; omega) _)
  replace Kl := Lib.hid (show Blk (w9.setRow (G + 1 + 1 + 1 + 1) (leaseC x1 la u k2 D)) (gl) _ _ from Kl.out.rowfar (by have := Nlr2.out; omega) _)
  replace Q6 := Lib.hid (show GrA (w9.setRow (G + 1 + 1 + 1 + 1) (leaseC x1 la u k2 D)) a6 L2 from RowsA.rowfar Q6.out (fun p hp => (F6.out p hp).2.1) _)
  replace B := Lib.hid (show Below w.heap.size w (w9.setRow (G + 1 + 1 + 1 + 1) (leaseC x1 la u k2 D)) from below_setRow B.out (show w.heap.size ≤ G + 1 + 1 + 1 + 1 by have := HG.out; omega) _)
  refine hK _ _ ⟨Kg.out, Kx.out, Kl.out⟩ (fun hHeld => ?_)
  clear hK K
  (try simp only [Act.put, List.getElem_toArray, List.getElem_cons_succ, List.getElem_cons_zero, List.setIfInBounds_toArray, List.set_cons_zero, List.set_cons_succ])
  generalize (w9.setRow (G + 1 + 1 + 1 + 1) (leaseC x1 la u k2 D)) = w10 at Kg Ks Kx Kl Kr Q6 B hHeld ⊢
  refine wpAnyH_take (i := 6) (v := .int .i64 0) rfl (by kernel_rfl) (by kernel_rfl) (by kernel_rfl) (fun _ _ _ h => h) (Or.inl ⟨by rfl, fun W hW => by go_simp⟩) (by assumption) ?_
  (try simp only [Act.put, List.getElem_toArray, List.getElem_cons_succ, List.getElem_cons_zero, List.setIfInBounds_toArray, List.set_cons_zero, List.set_cons_succ])
  refine wpAnyH_done (by kernel_rfl) ?_ _
  go_wp2
  refine bodyPost_ret (results_row_row_tmp rfl _ _ (G + 1 + 1 + 1) 24 #[.int .i64 la, .int .i64 mo, .slice a6 L2.length c6] (0, 0) _ (G + 1 + 1 + 1 + 1) 38 (leaseC x1 la u k2 D) (0, 0) _ rfl rfl Kr.out Ks.out Tryd.underlying24 rfl (big_grants _ _ _ _ _).info Tryd.underlying38 rfl BN.out.info) rfl ?_
  exact ⟨⟨a6, c6, rfl, Q6.out, fun p hp => (F6.out p hp).2.2⟩, B.out⟩
end Le
end Go.Proofs.YteblnmhaohbkkaaDoor
