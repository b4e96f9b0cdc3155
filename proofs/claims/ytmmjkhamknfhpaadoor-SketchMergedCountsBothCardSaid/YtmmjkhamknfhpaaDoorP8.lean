/- Law 8: what two sketches merge to counts both. -/
import Derived.Test.YtmmjkhamknfhpaaDoorQ
import Derived.Test.YtmmjkhamknfhpaaDoorP7
import Derived.Lib.QuietBelow
import Derived.BigQuiet
namespace Go.Proofs.YtmmjkhamknfhpaaDoor
set_option linter.unusedVariables false
set_option linter.unusedSimpArgs false
open Go.RowKit Go.Sort
theorem grow_cell (w : World) (d : Nat) (os : Array Obj) (b o : Nat) (h : b < w.heap.size) : (grow (redrawn w d) os).cell? ⟨b, o, none⟩ = w.cell? ⟨b, o, none⟩ :=
  (below_regrown w d os).cell (p := ⟨b, o, none⟩) h
theorem below_of_grow {W W' : World} {d : Nat} {os : Array Obj} (h : W' = grow (redrawn W d) os) : Below W.heap.size W W' := h ▸ below_regrown W d os
set_option maxRecDepth 100000 in
set_option maxHeartbeats 2000000 in
theorem both_ok (N : Nat) (S A1 A2 : Int) (a1 a2 : Option Addr) (c1 c2 : Nat) (l1 l2 : List Int) (key : ByteArray) (w : World) (hp1 : IntsA w a1 l1) (hp2 : IntsA w a2 l2) (h3 : l1.length ≤ 300) (hk : key.size ≤ 100)
    (ok1 : Ok N S A1 l1) (ok2 : Ok N S A2 l2) (hW : ∃ k : Nat, k ≤ 12 ∧ N = 2 ^ k) (hl1 : l1.length = 4 * N) (hl2 : l2.length = 4 * N) (hla : LaidC w) :
    Calls Tryd.prog 8 #[.agg #[.int .i64 N, .int .i64 S, .int .i64 A1, .slice a1 l1.length c1], .agg #[.int .i64 N, .int .i64 S, .int .i64 A2, .slice a2 l1.length c2], .string key] w fun e w' => e = .returned (.bool true) ∧ Below w.heap.size w w' := by
  have LA := Lib.hid hla
  have HP := Lib.hid hp1
  have HQ := Lib.hid hp2
  have N0 : 0 < N := by have := ok1.pos; omega
  have N4 : N ≤ 4096 := by have := ok1.w; omega
  have OK1 := Lib.hid ok1
  have OK2 := Lib.hid ok2
  have a10 := ok1.a0
  have a11 := ok1.a1
  have a20 := ok2.a0
  have a21 := ok2.a1
  have s2 := ok2.s2
  have E12 : l2.length = l1.length := by omega
  have VR1 := Lib.hid (fun (X : World) (h : IntsA X a1 l1) => validref_any N S A1 a1 c1 l1 X h (by omega) (by omega) (by omega))
  have VR2 := Lib.hid (fun (X : World) (h : IntsA X a2 l2) => validref_any N S A2 a2 c2 l2 X h (by omega) (by omega) (by omega))
  have MG := Lib.hid (fun (X : World) (h : IntsA X a1 l1) (h' : IntsA X a2 l2) => merge_any N S A1 A2 a1 a2 c1 c2 l1 l2 X h h' hl1 hl2 N0 N4 ok1.all ok2.all a10 a11 a20 a21 s2)
  have CA := Lib.hid (fun (X : World) (h : IntsA X a1 l1) (h2 : LaidC X) => count_any N S A1 a1 c1 l1 key X h hl1 (by omega) hW h2)
  have CB := Lib.hid (fun (X : World) (h : IntsA X a2 l2) (h2 : LaidC X) => count_any N S A2 a2 c2 l2 key X h hl2 (by omega) hW h2)
  have F1 := Lib.hid (fun (X : World) (h : IntsA X a1 l1) => fill_any N S A1 a1 c1 l1 X h (by omega))
  have F2 := Lib.hid (fun (X : World) (h : IntsA X a2 l2) => fill_any N S A2 a2 c2 l2 X h (by omega))
  obtain ⟨L, hL⟩ : ∃ L, mgL S A1 A2 l1 l2 = L := ⟨_, rfl⟩
  have hE := hl1.trans hl2.symm
  have hLn : L.length = 4 * N := by
    rw [← hL]; unfold mgL; split
    · rw [halve_len, mergeL_len _ _ hE, hl1]
    · rw [mergeL_len _ _ hE, hl1]
  obtain ⟨A3, hA3⟩ : ∃ x, mgA S A1 A2 = x := ⟨_, rfl⟩
  rw [hL, hA3] at MG
  have C7 := Lib.hid (fun (X : World) (g c : Nat) (h : RowI X g L) (h2 : LaidC X) => count_any N S A3 (some ⟨g, 0, none⟩) c L key X h.ints hLn (by omega) hW h2)
  have F7 := Lib.hid (fun (X : World) (g c : Nat) (h : RowI X g L) => fill_any N S A3 (some ⟨g, 0, none⟩) c L X h.ints (by omega))
  have x10 : 0 ≤ cnt N (pl key) l1 := cnt_ge N (pl key) l1 0 (by omega) (fun r hr => (getD_small l1 ok1.all _).1)
  have x20 : 0 ≤ cnt N (pl key) l2 := cnt_ge N (pl key) l2 0 (by omega) (fun r hr => (getD_small l2 ok2.all _).1)
  have x11 := cnt_le N (pl key) l1
  have x21 := cnt_le N (pl key) l2
  have y1 := cnt_le N (pl key) L
  have U1 := cnt_merge N (pl key) l1 l2 hE
  have U2 := fill_merge l1 l2 hE
  have U3 := cnt_halve N (pl key) (mergeL l1 l2) (fun r _ => (getD_small _ (mergeL_bd l1 l2 ok1.all ok2.all) _).2)
  have U4 := fill_halve (mergeL l1 l2) (fun x hx => (mergeL_bd l1 l2 ok1.all ok2.all x hx).1)
  have J1 : S ≤ A1 + A2 → A3 = (A1 + A2) / 2 ∧ min (cnt N (pl key) l1 + cnt N (pl key) l2) 15 / 2 ≤ cnt N (pl key) L := fun h => by
    rw [← hA3, ← hL]; unfold mgA mgL; rw [if_pos h, if_pos h, U3]; exact ⟨rfl, by omega⟩
  have J2 : ¬ S ≤ A1 + A2 → A3 = A1 + A2 ∧ min (cnt N (pl key) l1 + cnt N (pl key) l2) 15 ≤ cnt N (pl key) L := fun h => by
    rw [← hA3, ← hL]; unfold mgA mgL; rw [if_neg h, if_neg h]; exact ⟨rfl, U1⟩
  have J3 : fill L ≤ fill l1 + fill l2 := by
    rw [← hL]; unfold mgL; split
    · omega
    · exact U2
  have b1 := fill_le l1
  have b2 := fill_le l2
  have b7 := fill_le L
  obtain ⟨n, hn⟩ : ∃ n, l1.length = n := ⟨_, rfl⟩
  have hn7 : L.length = n := by omega
  rw [hn] at b1 h3 E12
  rw [E12] at b2
  rw [hn7] at b7
  rw [hn] at VR1 MG CA F1 ⊢
  rw [E12] at VR2 CB F2
  rw [hn7] at C7 F7
  generalize hx1 : cnt N (pl key) l1 = x1 at *
  generalize hx2 : cnt N (pl key) l2 = x2 at *
  generalize hy : cnt N (pl key) L = y at *
  generalize hf1 : fill l1 = f1 at *
  generalize hf2 : fill l2 = f2 at *
  generalize hf7 : fill L = f7 at *
  clear U1 U2 U3 U4 hx1 hx2 hy hf1 hf2 hf7 hLn hE hL hA3 hn hn7 hl1 hl2 E12 hW N0 N4 hla hp1 hp2 ok1 ok2
  have t1 : decide ((300 : Int) < (n : Int)) = false := decide_eq_false (by omega)
  have t2 : decide ((100 : Int) < (key.size : Int)) = false := decide_eq_false (by omega)
  go_enter Tryd.func8, Tryd.ntmps8
  go_wp2_with fail
  refine (VR1.out _ (HP.out.mono (by (repeat' (first | (with_reducible exact Below.refl _ _) | (with_reducible assumption) | (with_reducible refine Below.alloc ?_ ?_ _) | (with_reducible refine Below.drew ?_) | (with_reducible refine below_dn ?_) | (with_reducible refine Below.setCell ?_ ?_ _) | (with_reducible exact Nat.le_refl _) | omega | (simp only [World.size_alloc, World.size_setCell, World.size_drew]; omega) | (simp; omega) | (simp; done)))))).mono ?_
  rintro e w1 ⟨⟨b, rfl, hb0⟩, hb⟩
  obtain rfl : b = true := hb0.2 OK1.out
  have K1 := Lib.hid (show Blk w1 w.heap.size 24 #[.int .i64 N, .int .i64 S, .int .i64 A1, .slice a1 n c1] from ((Blk.new' w _ _ _ rfl rfl).alloc _).below hb (by simp; omega))
  have K2 := Lib.hid (show Blk w1 (w.heap.size + 1) 24 #[.int .i64 N, .int .i64 S, .int .i64 A2, .slice a2 n c2] from (Blk.new' _ _ _ _ (World.size_alloc _ _) rfl).below hb (by simp))
  have B := Lib.hid (bt (show Below w.heap.size w ((w.alloc (.cells #[.int .i64 N, .int .i64 S, .int .i64 A1, .slice a1 n c1] 24)).alloc (.cells #[.int .i64 N, .int .i64 S, .int .i64 A2, .slice a2 n c2] 24)) by (repeat' (first | (with_reducible exact Below.refl _ _) | (with_reducible assumption) | (with_reducible refine Below.alloc ?_ ?_ _) | (with_reducible refine Below.drew ?_) | (with_reducible refine below_dn ?_) | (with_reducible refine Below.setCell ?_ ?_ _) | (with_reducible exact Nat.le_refl _) | omega | (simp only [World.size_alloc, World.size_setCell, World.size_drew]; omega) | (simp; omega) | (simp; done)))) hb)
  clear hb hb0 VR1
  have d0 := K1.out.cell 0
  change _ = some (Value.int .i64 N) at d0
  have d1 := K1.out.cell 1
  change _ = some (Value.int .i64 S) at d1
  have d2 := K1.out.cell 2
  change _ = some (Value.int .i64 A1) at d2
  have d3 := K1.out.cell 3
  change _ = some (Value.slice a1 n c1) at d3
  have e0 := K2.out.cell 0
  change _ = some (Value.int .i64 N) at e0
  have e1 := K2.out.cell 1
  change _ = some (Value.int .i64 S) at e1
  have e2 := K2.out.cell 2
  change _ = some (Value.int .i64 A2) at e2
  have e3 := K2.out.cell 3
  change _ = some (Value.slice a2 n c2) at e3
  go_wp2_with fail
  refine (VR2.out _ (HQ.out.mono B.out)).mono ?_
  rintro e w2 ⟨⟨b, rfl, hb0⟩, hb⟩
  obtain rfl : b = true := hb0.2 OK2.out
  replace K1 := Lib.hid (K1.out.below hb K1.out.lt)
  replace K2 := Lib.hid (K2.out.below hb K2.out.lt)
  replace B := Lib.hid (bt B.out hb)
  clear hb hb0 VR2 d0 d1 d2 d3 e0 e1 e2 e3
  have d0 := K1.out.cell 0
  change _ = some (Value.int .i64 N) at d0
  have d1 := K1.out.cell 1
  change _ = some (Value.int .i64 S) at d1
  have d2 := K1.out.cell 2
  change _ = some (Value.int .i64 A1) at d2
  have d3 := K1.out.cell 3
  change _ = some (Value.slice a1 n c1) at d3
  have e0 := K2.out.cell 0
  change _ = some (Value.int .i64 N) at e0
  have e1 := K2.out.cell 1
  change _ = some (Value.int .i64 S) at e1
  have e2 := K2.out.cell 2
  change _ = some (Value.int .i64 A2) at e2
  have e3 := K2.out.cell 3
  change _ = some (Value.slice a2 n c2) at e3
  go_wp2_with fail
  refine (MG.out _ (HP.out.mono B.out) (HQ.out.mono B.out)).mono ?_
  rintro e w3 ⟨⟨g, c, rfl, hr⟩, hb⟩
  replace K1 := Lib.hid ((K1.out.below hb K1.out.lt).alloc (.cells #[.int .i64 N, .int .i64 S, .int .i64 A3, .slice (some ⟨g, 0, none⟩) n c] 24))
  replace K2 := Lib.hid ((K2.out.below hb K2.out.lt).alloc (.cells #[.int .i64 N, .int .i64 S, .int .i64 A3, .slice (some ⟨g, 0, none⟩) n c] 24))
  have R7 := Lib.hid (hr.alloc (.cells #[.int .i64 N, .int .i64 S, .int .i64 A3, .slice (some ⟨g, 0, none⟩) n c] 24))
  replace B := Lib.hid (let B' := bt B.out hb; B'.alloc B'.size (.cells #[.int .i64 N, .int .i64 S, .int .i64 A3, .slice (some ⟨g, 0, none⟩) n c] 24))
  obtain ⟨s7, hs7⟩ : ∃ s, w3.heap.size = s := ⟨_, rfl⟩
  have K7 := Lib.hid (show Blk (w3.alloc (.cells #[.int .i64 N, .int .i64 S, .int .i64 A3, .slice (some ⟨g, 0, none⟩) n c] 24)) s7 24 #[.int .i64 N, .int .i64 S, .int .i64 A3, .slice (some ⟨g, 0, none⟩) n c] from Blk.new' w3 _ _ _ hs7 rfl)
  clear hb hr MG d0 d1 d2 d3 e0 e1 e2 e3
  have d0 := K1.out.cell 0
  change _ = some (Value.int .i64 N) at d0
  have d1 := K1.out.cell 1
  change _ = some (Value.int .i64 S) at d1
  have d2 := K1.out.cell 2
  change _ = some (Value.int .i64 A1) at d2
  have d3 := K1.out.cell 3
  change _ = some (Value.slice a1 n c1) at d3
  have e0 := K2.out.cell 0
  change _ = some (Value.int .i64 N) at e0
  have e1 := K2.out.cell 1
  change _ = some (Value.int .i64 S) at e1
  have e2 := K2.out.cell 2
  change _ = some (Value.int .i64 A2) at e2
  have e3 := K2.out.cell 3
  change _ = some (Value.slice a2 n c2) at e3
  have wx : IntKind.i64.wrap (x1 + x2) = x1 + x2 := by rw [IntKind.wrap_i64]; omega
  obtain ⟨X, hX⟩ : ∃ X, x1 + x2 = X := ⟨_, rfl⟩
  rw [hX] at wx
  go_wp2_with fail
  generalize hw4 : World.alloc w3 (.cells #[.int .i64 N, .int .i64 S, .int .i64 A3, .slice (some ⟨g, 0, none⟩) n c] 24) = w4 at K1 K2 K7 R7 B d0 d1 d2 d3 e0 e1 e2 e3 ⊢
  clear hw4 hs7
  have LA2 := Lib.hid (LA.out.mono B.out)
  have I1 := Lib.hid (HP.out.mono B.out)
  have I2 := Lib.hid (HQ.out.mono B.out)
  have QC := Lib.hid (fun (d : Nat) (os : Array Obj) => CA.out (grow (redrawn w4 d) os) (I1.out.mono (below_regrown _ _ _)) (LA2.out.mono (below_regrown _ _ _)))
  have QD := Lib.hid (fun (d : Nat) (os : Array Obj) => CB.out (grow (redrawn w4 d) os) (I2.out.mono (below_regrown _ _ _)) (LA2.out.mono (below_regrown _ _ _)))
  have gc := grow_cell
  have z1 := K1.out.lt
  have z2 := K2.out.lt
  refine wp_region_quiet_below (by kernel_rfl) (by kernel_rfl) ?_
  repeat (go_big_quiet_step (first | (with_reducible exact Calls.regrown_of (QC.out _ _)) | (with_reducible exact Calls.regrown_of (QD.out _ _))))
  refine wpQuiet_nil ?_
  intro w5 hw'
  obtain ⟨⟨dq, osq⟩, hw''⟩ := hw'
  have hb := below_of_grow hw''
  clear hw'' gc QC QD z1 z2
  replace K1 := Lib.hid (K1.out.below hb K1.out.lt)
  replace K2 := Lib.hid (K2.out.below hb K2.out.lt)
  replace K7 := Lib.hid (K7.out.below hb K7.out.lt)
  replace R7 := Lib.hid (R7.out.below hb R7.out.lt)
  replace LA2 := Lib.hid (LA2.out.mono hb)
  replace I1 := Lib.hid (I1.out.mono hb)
  replace I2 := Lib.hid (I2.out.mono hb)
  replace B := Lib.hid (bt B.out hb)
  clear hb d0 d1 d2 d3 e0 e1 e2 e3
  have d0 := K1.out.cell 0
  change _ = some (Value.int .i64 N) at d0
  have d1 := K1.out.cell 1
  change _ = some (Value.int .i64 S) at d1
  have d2 := K1.out.cell 2
  change _ = some (Value.int .i64 A1) at d2
  have d3 := K1.out.cell 3
  change _ = some (Value.slice a1 n c1) at d3
  have e0 := K2.out.cell 0
  change _ = some (Value.int .i64 N) at e0
  have e1 := K2.out.cell 1
  change _ = some (Value.int .i64 S) at e1
  have e2 := K2.out.cell 2
  change _ = some (Value.int .i64 A2) at e2
  have e3 := K2.out.cell 3
  change _ = some (Value.slice a2 n c2) at e3
  have h0 := K7.out.cell 0
  change _ = some (Value.int .i64 N) at h0
  have h1 := K7.out.cell 1
  change _ = some (Value.int .i64 S) at h1
  have h2 := K7.out.cell 2
  change _ = some (Value.int .i64 A3) at h2
  have h3 := K7.out.cell 3
  change _ = some (Value.slice (some ⟨g, 0, none⟩) n c) at h3
  obtain ⟨m, hm⟩ : ∃ m, min X 15 = m := ⟨_, rfl⟩
  have m0 : 0 ≤ m := by omega
  have m15 : m ≤ 15 := by omega
  have wm : IntKind.i64.wrap (A1 + A2) = A1 + A2 := by rw [IntKind.wrap_i64]; omega
  obtain ⟨M, hM⟩ : ∃ M, A1 + A2 = M := ⟨_, rfl⟩
  rw [hM] at wm J1 J2
  rw [hX, hm] at J1 J2
  have wf : IntKind.i64.wrap ((f1 : Int) + (f2 : Int)) = (f1 : Int) + (f2 : Int) := by rw [IntKind.wrap_i64]; omega
  have t3 : decide ((f7 : Int) ≤ (f1 : Int) + (f2 : Int)) = true := decide_eq_true (by omega)
  have T3 := Lib.hid t3
  clear t3
  have M0 : 0 ≤ M := by omega
  by_cases hS1 : S ≤ M
  · obtain ⟨j1, j2⟩ := J1 hS1
    have t4 : (A3 != M) = true := bne_iff_ne.2 (by omega)
    have q1 : m.tdiv 2 = m / 2 := Int.tdiv_eq_ediv_of_nonneg m0
    have q2 : IntKind.i64.wrap (m / 2) = m / 2 := by rw [IntKind.wrap_i64]; omega
    obtain ⟨q, hq⟩ : ∃ q, m / 2 = q := ⟨_, rfl⟩
    rw [hq] at q1 q2 j2
    have t5 : decide (q ≤ y) = true := decide_eq_true j2
    clear J1 J2 J3 hS1 j1 hq CA CB
    go_wp2_with fail
    have QS := Lib.hid (fun (d : Nat) (os : Array Obj) => sane (grow (redrawn w5 d) os) (LA2.out.mono (below_regrown _ _ _)))
    have QC := Lib.hid (fun (d : Nat) (os : Array Obj) => C7.out (grow (redrawn w5 d) os) g c (R7.out.below (below_regrown _ _ _) R7.out.lt) (LA2.out.mono (below_regrown _ _ _)))
    have QF := Lib.hid (fun (d : Nat) (os : Array Obj) => F7.out (grow (redrawn w5 d) os) g c (R7.out.below (below_regrown _ _ _) R7.out.lt))
    have Q1 := Lib.hid (fun (d : Nat) (os : Array Obj) => F1.out (grow (redrawn w5 d) os) (I1.out.mono (below_regrown _ _ _)))
    have Q2 := Lib.hid (fun (d : Nat) (os : Array Obj) => F2.out (grow (redrawn w5 d) os) (I2.out.mono (below_regrown _ _ _)))
    have gc := grow_cell
    have z1 := K1.out.lt
    have z2 := K2.out.lt
    have z7 := K7.out.lt
    refine wp_region_quiet_below (by kernel_rfl) (by kernel_rfl) ?_
    repeat (go_big_quiet_step (first | (with_reducible exact Calls.regrown_of (QS.out _ _)) | (with_reducible exact Calls.regrown_of (QC.out _ _)) | (with_reducible exact Calls.regrown_of (QF.out _ _)) | (with_reducible exact Calls.regrown_of (Q1.out _ _)) | (with_reducible exact Calls.regrown_of (Q2.out _ _))))
    refine wpQuiet_nil ?_
    intro w9 hw'
    obtain ⟨⟨dq, osq⟩, hw''⟩ := hw'
    have hb := below_of_grow hw''
    replace B := Lib.hid (bt B.out hb)
    clear hw'' hb gc
    go_wp2_with fail
    go_ret
    exact ⟨by rw [← T3.out]; rfl, B.out⟩
  · obtain ⟨j1, j2⟩ := J2 (by omega)
    have t4 : (A3 != M) = false := by rw [j1]; simp
    have t5 : decide (m ≤ y) = true := decide_eq_true j2
    have N3 : A3 = M := j1
    clear J1 J2 J3 CA CB j1
    subst N3
    go_wp2_with fail
    have QS := Lib.hid (fun (d : Nat) (os : Array Obj) => sane (grow (redrawn w5 d) os) (LA2.out.mono (below_regrown _ _ _)))
    have QC := Lib.hid (fun (d : Nat) (os : Array Obj) => C7.out (grow (redrawn w5 d) os) g c (R7.out.below (below_regrown _ _ _) R7.out.lt) (LA2.out.mono (below_regrown _ _ _)))
    have QF := Lib.hid (fun (d : Nat) (os : Array Obj) => F7.out (grow (redrawn w5 d) os) g c (R7.out.below (below_regrown _ _ _) R7.out.lt))
    have Q1 := Lib.hid (fun (d : Nat) (os : Array Obj) => F1.out (grow (redrawn w5 d) os) (I1.out.mono (below_regrown _ _ _)))
    have Q2 := Lib.hid (fun (d : Nat) (os : Array Obj) => F2.out (grow (redrawn w5 d) os) (I2.out.mono (below_regrown _ _ _)))
    have gc := grow_cell
    have z1 := K1.out.lt
    have z2 := K2.out.lt
    have z7 := K7.out.lt
    refine wp_region_quiet_below (by kernel_rfl) (by kernel_rfl) ?_
    repeat (go_big_quiet_step (first | (with_reducible exact Calls.regrown_of (QS.out _ _)) | (with_reducible exact Calls.regrown_of (QC.out _ _)) | (with_reducible exact Calls.regrown_of (QF.out _ _)) | (with_reducible exact Calls.regrown_of (Q1.out _ _)) | (with_reducible exact Calls.regrown_of (Q2.out _ _))))
    refine wpQuiet_nil ?_
    intro w9 hw'
    obtain ⟨⟨dq, osq⟩, hw''⟩ := hw'
    have hb := below_of_grow hw''
    replace B := Lib.hid (bt B.out hb)
    clear hw'' hb gc
    go_wp2_with fail
    go_ret
    exact ⟨by rw [← T3.out]; rfl, B.out⟩
set_option maxRecDepth 100000 in
set_option maxHeartbeats 2000000 in
theorem both_law (W1 S1 A1 W2 S2 A2 : Int) (a1 a2 : Option Addr) (c1 c2 : Nat) (l1 l2 : List Int) (key : ByteArray) (w : World) (hp1 : IntsA w a1 l1) (hp2 : IntsA w a2 l2) (hm1 : l1.length ≤ 9223372036854775807) (hm2 : l2.length ≤ 9223372036854775807) (hk : key.size ≤ 9223372036854775807)
    (wa1 : -9223372036854775808 ≤ W1) (wb1 : W1 ≤ 9223372036854775807) (wa2 : -9223372036854775808 ≤ W2) (wb2 : W2 ≤ 9223372036854775807) (hla : LaidC w) :
    Calls Tryd.prog 8 #[.agg #[.int .i64 W1, .int .i64 S1, .int .i64 A1, .slice a1 l1.length c1], .agg #[.int .i64 W2, .int .i64 S2, .int .i64 A2, .slice a2 l2.length c2], .string key] w fun e w' => e = .returned (.bool true) ∧ Below w.heap.size w w' := by
  by_cases hall : l1.length ≤ 300 ∧ l2.length ≤ 300 ∧ key.size ≤ 100 ∧ Ok W1 S1 A1 l1 ∧ Ok W2 S2 A2 l2 ∧ W1 = W2 ∧ S1 = S2
  · obtain ⟨h1, -, h3, ok1, ok2, rfl, rfl⟩ := hall
    obtain ⟨N, rfl, hW, hl1⟩ := ok1.nat
    have hl2 : l2.length = 4 * N := by have := ok2.len; omega
    have h := both_ok N S1 A1 A2 a1 a2 c1 c2 l1 l2 key w hp1 hp2 h1 h3 ok1 ok2 hW hl1 hl2 hla
    rw [hl1, ← hl2] at h
    rw [show l1.length = l2.length by omega]
    exact h
  · have LA := Lib.hid hla
    have HP := Lib.hid hp1
    have HQ := Lib.hid hp2
    have VR1 := Lib.hid (fun (X : World) (h : IntsA X a1 l1) => validref_any W1 S1 A1 a1 c1 l1 X h hm1 wa1 wb1)
    have VR2 := Lib.hid (fun (X : World) (h : IntsA X a2 l2) => validref_any W2 S2 A2 a2 c2 l2 X h hm2 wa2 wb2)
    have SA := Lib.hid (fun (X : World) (h : LaidC X) => sane X h)
    obtain ⟨n1, hn1⟩ : ∃ n, l1.length = n := ⟨_, rfl⟩
    obtain ⟨n2, hn2⟩ : ∃ n, l2.length = n := ⟨_, rfl⟩
    rw [hn1] at VR1 hm1 hall ⊢
    rw [hn2] at VR2 hm2 hall ⊢
    have G0 := Lib.hid (show Below w.heap.size w ((w.alloc (.cells #[.int .i64 W1, .int .i64 S1, .int .i64 A1, .slice a1 n1 c1] 24)).alloc (.cells #[.int .i64 W2, .int .i64 S2, .int .i64 A2, .slice a2 n2 c2] 24)) by (repeat' (first | (with_reducible exact Below.refl _ _) | (with_reducible assumption) | (with_reducible refine Below.alloc ?_ ?_ _) | (with_reducible refine Below.drew ?_) | (with_reducible refine below_dn ?_) | (with_reducible refine Below.setCell ?_ ?_ _) | (with_reducible exact Nat.le_refl _) | omega | (simp only [World.size_alloc, World.size_setCell, World.size_drew]; omega) | (simp; omega) | (simp; done))))
    clear hla hp1 hp2 hn1 hn2 wa1 wb1 wa2 wb2
    by_cases h1 : n1 ≤ 300
    · have t1 : decide ((300 : Int) < (n1 : Int)) = false := decide_eq_false (by omega)
      by_cases h2 : n2 ≤ 300
      · have t2 : decide ((300 : Int) < (n2 : Int)) = false := decide_eq_false (by omega)
        by_cases h3 : key.size ≤ 100
        · have t3 : decide ((100 : Int) < (key.size : Int)) = false := decide_eq_false (by omega)
          by_cases ok1 : Ok W1 S1 A1 l1
          · by_cases ok2 : Ok W2 S2 A2 l2
            · have hne : W1 ≠ W2 ∨ S1 ≠ S2 := by
                by_cases hw : W1 = W2
                · exact Or.inr (fun hs => hall ⟨h1, h2, h3, ok1, ok2, hw, hs⟩)
                · exact Or.inl hw
              have MN := Lib.hid (fun X : World => merge_no W1 S1 A1 W2 S2 A2 (.slice a1 n1 c1) (.slice a2 n2 c2) X hne)
              have OK1 := Lib.hid ok1
              have OK2 := Lib.hid ok2
              have HNE := Lib.hid hne
              clear hall hne ok1 ok2
              go_enter Tryd.func8, Tryd.ntmps8
              go_wp2_with fail
              refine (VR1.out _ (HP.out.mono G0.out)).mono ?_
              rintro e w1 ⟨⟨b, rfl, hb0⟩, hb⟩
              obtain rfl : b = true := hb0.2 OK1.out
              have K1 := Lib.hid (show Blk w1 w.heap.size 24 #[.int .i64 W1, .int .i64 S1, .int .i64 A1, .slice a1 n1 c1] from ((Blk.new' w _ _ _ rfl rfl).alloc _).below hb (by simp; omega))
              have K2 := Lib.hid (show Blk w1 (w.heap.size + 1) 24 #[.int .i64 W2, .int .i64 S2, .int .i64 A2, .slice a2 n2 c2] from (Blk.new' _ _ _ _ (World.size_alloc _ _) rfl).below hb (by simp))
              have B := Lib.hid (bt G0.out hb)
              clear hb hb0 VR1
              have d0 := K1.out.cell 0
              change _ = some (Value.int .i64 W1) at d0
              have d1 := K1.out.cell 1
              change _ = some (Value.int .i64 S1) at d1
              have d2 := K1.out.cell 2
              change _ = some (Value.int .i64 A1) at d2
              have d3 := K1.out.cell 3
              change _ = some (Value.slice a1 n1 c1) at d3
              have e0 := K2.out.cell 0
              change _ = some (Value.int .i64 W2) at e0
              have e1 := K2.out.cell 1
              change _ = some (Value.int .i64 S2) at e1
              have e2 := K2.out.cell 2
              change _ = some (Value.int .i64 A2) at e2
              have e3 := K2.out.cell 3
              change _ = some (Value.slice a2 n2 c2) at e3
              go_wp2_with fail
              refine (VR2.out _ (HQ.out.mono B.out)).mono ?_
              rintro e w2 ⟨⟨b, rfl, hb0⟩, hb⟩
              obtain rfl : b = true := hb0.2 OK2.out
              replace K1 := Lib.hid (K1.out.below hb K1.out.lt)
              replace K2 := Lib.hid (K2.out.below hb K2.out.lt)
              replace B := Lib.hid (bt B.out hb)
              clear hb hb0 VR2 d0 d1 d2 d3 e0 e1 e2 e3
              have d0 := K1.out.cell 0
              change _ = some (Value.int .i64 W1) at d0
              have d1 := K1.out.cell 1
              change _ = some (Value.int .i64 S1) at d1
              have d2 := K1.out.cell 2
              change _ = some (Value.int .i64 A1) at d2
              have d3 := K1.out.cell 3
              change _ = some (Value.slice a1 n1 c1) at d3
              have e0 := K2.out.cell 0
              change _ = some (Value.int .i64 W2) at e0
              have e1 := K2.out.cell 1
              change _ = some (Value.int .i64 S2) at e1
              have e2 := K2.out.cell 2
              change _ = some (Value.int .i64 A2) at e2
              have e3 := K2.out.cell 3
              change _ = some (Value.slice a2 n2 c2) at e3
              go_wp2_with fail
              refine (MN.out _).mono ?_
              rintro e w3 ⟨rfl, hb⟩
              replace K1 := Lib.hid (K1.out.below hb K1.out.lt)
              replace K2 := Lib.hid (K2.out.below hb K2.out.lt)
              replace B := Lib.hid (bt B.out hb)
              clear hb MN d0 d1 d2 d3 e0 e1 e2 e3
              go_wp2_with fail
              refine (SA.out _ (LA.out.mono (B.out.alloc B.out.size _))).mono ?_
              rintro e w4 ⟨rfl, hb⟩
              replace K1 := Lib.hid ((K1.out.alloc _).below hb (by have := K1.out.lt; simp; omega))
              replace K2 := Lib.hid ((K2.out.alloc _).below hb (by have := K2.out.lt; simp; omega))
              replace B := Lib.hid (bt (B.out.alloc B.out.size _) hb)
              clear hb
              have d0 := K1.out.cell 0
              change _ = some (Value.int .i64 W1) at d0
              have d1 := K1.out.cell 1
              change _ = some (Value.int .i64 S1) at d1
              have d2 := K1.out.cell 2
              change _ = some (Value.int .i64 A1) at d2
              have d3 := K1.out.cell 3
              change _ = some (Value.slice a1 n1 c1) at d3
              have e0 := K2.out.cell 0
              change _ = some (Value.int .i64 W2) at e0
              have e1 := K2.out.cell 1
              change _ = some (Value.int .i64 S2) at e1
              have e2 := K2.out.cell 2
              change _ = some (Value.int .i64 A2) at e2
              have e3 := K2.out.cell 3
              change _ = some (Value.slice a2 n2 c2) at e3
              by_cases hw : W1 = W2
              · have hs : S1 ≠ S2 := by rcases HNE.out with h | h; exact absurd hw h; exact h
                have t4 : (W1 != W2) = false := by rw [hw]; simp
                have t5 : (S1 != S2) = true := bne_iff_ne.2 hs
                clear hw hs
                go_wp2_with fail
                go_ret
                exact ⟨rfl, B.out⟩
              · have t4 : (W1 != W2) = true := bne_iff_ne.2 hw
                clear hw
                go_wp2_with fail
                go_ret
                exact ⟨rfl, B.out⟩
            · have OK1 := Lib.hid ok1
              have OK2 := Lib.hid ok2
              clear hall ok1 ok2
              go_enter Tryd.func8, Tryd.ntmps8
              go_wp2_with fail
              refine (VR1.out _ (HP.out.mono G0.out)).mono ?_
              rintro e w1 ⟨⟨b, rfl, hb0⟩, hb⟩
              obtain rfl : b = true := hb0.2 OK1.out
              have K2 := Lib.hid (show Blk w1 (w.heap.size + 1) 24 #[.int .i64 W2, .int .i64 S2, .int .i64 A2, .slice a2 n2 c2] from (Blk.new' _ _ _ _ (World.size_alloc _ _) rfl).below hb (by simp))
              have B := Lib.hid (bt G0.out hb)
              clear hb hb0 VR1
              have e0 := K2.out.cell 0
              change _ = some (Value.int .i64 W2) at e0
              have e1 := K2.out.cell 1
              change _ = some (Value.int .i64 S2) at e1
              have e2 := K2.out.cell 2
              change _ = some (Value.int .i64 A2) at e2
              have e3 := K2.out.cell 3
              change _ = some (Value.slice a2 n2 c2) at e3
              go_wp2_with fail
              refine (VR2.out _ (HQ.out.mono B.out)).mono ?_
              rintro e w2 ⟨⟨b, rfl, hb0⟩, hb⟩
              obtain rfl : b = false := by
                cases b
                · rfl
                · exact absurd (hb0.1 rfl) OK2.out
              replace B := Lib.hid (bt B.out hb)
              clear hb hb0 VR2 e0 e1 e2 e3
              go_wp2_with fail
              refine (SA.out _ (LA.out.mono B.out)).mono ?_
              rintro e w9 ⟨rfl, hb⟩
              replace B := Lib.hid (bt B.out hb)
              clear hb
              go_wp2_with fail
              go_ret
              exact ⟨rfl, B.out⟩
          · have OK1 := Lib.hid ok1
            clear hall ok1
            go_enter Tryd.func8, Tryd.ntmps8
            go_wp2_with fail
            refine (VR1.out _ (HP.out.mono G0.out)).mono ?_
            rintro e w1 ⟨⟨b, rfl, hb0⟩, hb⟩
            obtain rfl : b = false := by
              cases b
              · rfl
              · exact absurd (hb0.1 rfl) OK1.out
            have B := Lib.hid (bt G0.out hb)
            clear hb hb0 VR1
            go_wp2_with fail
            refine (SA.out _ (LA.out.mono B.out)).mono ?_
            rintro e w9 ⟨rfl, hb⟩
            replace B := Lib.hid (bt B.out hb)
            clear hb
            go_wp2_with fail
            go_ret
            exact ⟨rfl, B.out⟩
        · have t3 : decide ((100 : Int) < (key.size : Int)) = true := decide_eq_true (by omega)
          clear hall
          go_enter Tryd.func8, Tryd.ntmps8
          go_wp2_with fail
          have B := G0
          refine (SA.out _ (LA.out.mono B.out)).mono ?_
          rintro e w9 ⟨rfl, hb⟩
          replace B := Lib.hid (bt B.out hb)
          clear hb
          go_wp2_with fail
          go_ret
          exact ⟨rfl, B.out⟩
      · have t2 : decide ((300 : Int) < (n2 : Int)) = true := decide_eq_true (by omega)
        clear hall
        go_enter Tryd.func8, Tryd.ntmps8
        go_wp2_with fail
        have B := G0
        refine (SA.out _ (LA.out.mono B.out)).mono ?_
        rintro e w9 ⟨rfl, hb⟩
        replace B := Lib.hid (bt B.out hb)
        clear hb
        go_wp2_with fail
        go_ret
        exact ⟨rfl, B.out⟩
    · have t1 : decide ((300 : Int) < (n1 : Int)) = true := decide_eq_true (by omega)
      clear hall
      go_enter Tryd.func8, Tryd.ntmps8
      go_wp2_with fail
      have B := G0
      refine (SA.out _ (LA.out.mono B.out)).mono ?_
      rintro e w9 ⟨rfl, hb⟩
      replace B := Lib.hid (bt B.out hb)
      clear hb
      go_wp2_with fail
      go_ret
      exact ⟨rfl, B.out⟩
end Go.Proofs.YtmmjkhamknfhpaaDoor
