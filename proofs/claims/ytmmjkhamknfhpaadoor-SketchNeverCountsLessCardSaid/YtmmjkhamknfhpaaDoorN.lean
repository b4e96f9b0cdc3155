/- The examples: sanity of the law's package. -/
import Derived.Test.YtmmjkhamknfhpaaDoorK
import Derived.Test.YtmmjkhamknfhpaaDoorJ
namespace Go.Proofs.YtmmjkhamknfhpaaDoor
set_option linter.unusedVariables false
set_option linter.unusedSimpArgs false
open Go.RowKit
theorem rep_at {n j : Nat} (x : Int) (h : j < n) : (List.replicate n x).getD j 0 = x := by
  rw [getD_at 0 (by simpa using h), List.getElem_replicate]
theorem cnt_rep (W : Nat) (p : Nat → Nat) (x : Int) (n : Nat) (hW : 0 < W) (hn : n = 4 * W) (hx : x ≤ 15) : cnt W p (List.replicate n x) = x := by
  have h1 := cnt_cell W p (List.replicate n x) (show 0 < 4 by omega)
  rw [rep_at x (by rw [hn]; exact idx_lt p hW (by omega))] at h1
  have h2 := cnt_ge W p (List.replicate n x) x hx (fun r hr => by rw [rep_at x (by rw [hn]; exact idx_lt p hW hr)]; exact Int.le_refl _)
  omega
theorem idx_one (p : Nat → Nat) (k : Nat) : idx 1 p k = k := by unfold idx; omega
theorem add_rep (p : Nat → Nat) (x : Int) (hx : x < 15) : addL 1 p (List.replicate 4 x) = List.replicate 4 (x + 1) := by
  unfold addL
  rw [cnt_rep 1 p x 4 (by omega) (by omega) (by omega)]
  simp [addK, idx_one, List.replicate, hx]
theorem half_rep (n : Nat) (x : Int) : halve (List.replicate n x) = List.replicate n (x / 2) := by unfold halve; rw [List.map_replicate]
theorem fill_zero : fill (List.replicate 32 0) = 0 := by decide
theorem count1 (S A x : Int) (g cap : Nat) (key : ByteArray) (w : World) (hr : RowI w g (List.replicate 4 x)) (hx : x ≤ 15) (hk : key.size ≤ 400) (hla : LaidC w) :
    Calls Tryd.prog 15 #[.agg #[.int .i64 1, .int .i64 S, .int .i64 A, .slice (some ⟨g, 0, none⟩) 4 cap], .string key] w fun e w' => e = .returned (.int .i64 x) ∧ Below w.heap.size w w' := by
  have h := count_any 1 S A (some ⟨g, 0, none⟩) cap (List.replicate 4 x) key w hr.ints (by simp) hk ⟨0, by omega, rfl⟩ hla
  rw [cnt_rep 1 (pl key) x 4 (by omega) (by omega) hx, List.length_replicate] at h
  exact h
theorem count8 (key : ByteArray) (g cap : Nat) (w : World) (hr : RowI w g (List.replicate 32 0)) (hk : key.size ≤ 400) (hla : LaidC w) :
    Calls Tryd.prog 15 #[.agg #[.int .i64 8, .int .i64 100, .int .i64 0, .slice (some ⟨g, 0, none⟩) 32 cap], .string key] w fun e w' => e = .returned (.int .i64 0) ∧ Below w.heap.size w w' := by
  have h := count_any 8 100 0 (some ⟨g, 0, none⟩) cap (List.replicate 32 0) key w hr.ints (by simp) hk ⟨3, by omega, rfl⟩ hla
  rw [cnt_rep 8 (pl key) 0 32 (by omega) (by omega) (by omega), List.length_replicate] at h
  exact h
theorem fill8 (g cap : Nat) (w : World) (hr : RowI w g (List.replicate 32 0)) :
    Calls Tryd.prog 17 #[.agg #[.int .i64 8, .int .i64 100, .int .i64 0, .slice (some ⟨g, 0, none⟩) 32 cap]] w fun e w' => e = .returned (.int .i64 0) ∧ Below w.heap.size w w' := by
  have h := fill_any 8 100 0 (some ⟨g, 0, none⟩) cap (List.replicate 32 0) w hr.ints (by simp)
  rw [fill_zero, List.length_replicate] at h
  exact h
theorem add1 (S A x : Int) (g cap : Nat) (key : ByteArray) (w : World) (hr : RowI w g (List.replicate 4 x)) (h0 : 0 ≤ x) (hx : x < 15) (hA : 0 ≤ A) (hS : A < S) (hS2 : S ≤ 1048576) (hk : key.size ≤ 400) (hla : LaidC w) (A' x' : Int) (e1 : A' = nxA S A) (e2 : x' = if A + 1 = S then (x + 1) / 2 else x + 1) :
    Calls Tryd.prog 22 #[.agg #[.int .i64 1, .int .i64 S, .int .i64 A, .slice (some ⟨g, 0, none⟩) 4 cap], .string key] w fun e w' => (∃ g c, e = .returned (.agg #[.int .i64 1, .int .i64 S, .int .i64 A', .slice (some ⟨g, 0, none⟩) 4 c]) ∧ w.heap.size ≤ g ∧ RowI w' g (List.replicate 4 x')) ∧ Below w.heap.size w w' := by
  have h := add_any 1 S A (some ⟨g, 0, none⟩) cap (List.replicate 4 x) key w hr.ints (by simp) hk ⟨0, by omega, rfl⟩ (fun y hy => by rw [List.eq_of_mem_replicate hy]; omega) hA hS hS2 hla
  rw [List.length_replicate] at h
  refine h.mono ?_
  rintro e w' ⟨⟨g, c, rfl, -, h1, h2⟩, h3⟩
  refine ⟨⟨g, c, by rw [e1]; rfl, h1, ?_⟩, h3⟩
  have : nxL 1 (pl key) S A (List.replicate 4 x) = List.replicate 4 x' := by
    unfold nxL
    rw [add_rep (pl key) x hx, e2]
    by_cases h : A + 1 = S
    · rw [if_pos h, if_pos h, half_rep]
    · rw [if_neg h, if_neg h]
  rw [← this]
  exact h2
set_option maxRecDepth 100000 in
set_option maxHeartbeats 1000000 in
theorem sane (w : World) (hla : LaidC w) : Calls Tryd.prog 9 #[] w fun e w' => e = .returned (.bool true) ∧ Below w.heap.size w w' := by
  have LA := Lib.hid hla
  have C1 := Lib.hid (fun X : World => new_ok 8 100 X (by decide) (by decide) (by decide +kernel) (by decide) (by decide) (by decide) 32 (by decide))
  have C2 := Lib.hid (fun X : World => new_arg 6 100 X (by decide) (by decide) (Or.inl (by decide +kernel)))
  have C3 := Lib.hid (fun X : World => new_limit 8192 100 X (by decide) (by decide) (by decide +kernel) (by decide) (Or.inl (by decide)))
  have C4 := Lib.hid (fun X : World => new_arg 8 0 X (by decide) (by decide) (Or.inr (by decide)))
  have C5 := Lib.hid (fun X : World => new_ok 1 100 X (by decide) (by decide) (by decide +kernel) (by decide) (by decide) (by decide) 4 (by decide))
  have C6 := Lib.hid (fun X : World => new_ok 1 4 X (by decide) (by decide) (by decide +kernel) (by decide) (by decide) (by decide) 4 (by decide))
  clear hla
  go_enter Tryd.func9, Tryd.ntmps9
  go_wp2_with fail
  refine (C1.out _).mono ?_
  rintro e w1 ⟨⟨g1, rfl, hr⟩, hb1⟩
  have B := Lib.hid (show Below w.heap.size w w1 from hb1)
  have R1 := Lib.hid hr
  clear hb1 hr C1
  go_wp2_with fail
  refine (C2.out _).mono ?_
  rintro e w2 ⟨rfl, hb⟩
  have K1 := Lib.hid (show Blk w2 w1.heap.size 24 #[.int .i64 8, .int .i64 100, .int .i64 0, .slice (some ⟨g1, 0, none⟩) 32 32] from (Blk.new' w1 _ _ _ rfl rfl).below hb (by simp))
  have R1 := Lib.hid ((R1.out.alloc _).below hb (by have := R1.out.lt; simp; omega))
  have B := Lib.hid (bt (B.out.alloc B.out.size _) hb)
  obtain ⟨s1, hs1⟩ : ∃ s, w1.heap.size = s := ⟨_, rfl⟩
  rw [hs1] at K1 ⊢
  clear hb hs1 C2
  go_wp2_with fail
  refine (C3.out _).mono ?_
  rintro e w3 ⟨rfl, hb⟩
  have K1 := Lib.hid ((K1.out.alloc _).below hb (by have := K1.out.lt; simp; omega))
  have R1 := Lib.hid ((R1.out.alloc _).below hb (by have := R1.out.lt; simp; omega))
  have B := Lib.hid (bt (B.out.alloc B.out.size _) hb)
  clear hb C3
  go_wp2_with fail
  refine (C4.out _).mono ?_
  rintro e w4 ⟨rfl, hb⟩
  have K1 := Lib.hid ((K1.out.alloc _).below hb (by have := K1.out.lt; simp; omega))
  have R1 := Lib.hid ((R1.out.alloc _).below hb (by have := R1.out.lt; simp; omega))
  have B := Lib.hid (bt (B.out.alloc B.out.size _) hb)
  clear hb C4
  have K1 := Lib.hid (K1.out.alloc (.cells #[.int .i64 0, .int .i64 0, .int .i64 0, .slice none 0 0] 24))
  have R1 := Lib.hid (R1.out.alloc (.cells #[.int .i64 0, .int .i64 0, .int .i64 0, .slice none 0 0] 24))
  have B := Lib.hid (B.out.alloc B.out.size (.cells #[.int .i64 0, .int .i64 0, .int .i64 0, .slice none 0 0] 24))
  have d0 := K1.out.cell 0
  change _ = some (Value.int .i64 8) at d0
  have d1 := K1.out.cell 1
  change _ = some (Value.int .i64 100) at d1
  have d2 := K1.out.cell 2
  change _ = some (Value.int .i64 0) at d2
  have d3 := K1.out.cell 3
  change _ = some (Value.slice (some ⟨g1, 0, none⟩) 32 32) at d3
  go_wp2_with fail
  refine (count8 _ g1 32 _ R1.out (by decide) (LA.out.mono B.out)).mono ?_
  rintro e w5 ⟨rfl, hb⟩
  have K1 := Lib.hid (K1.out.below hb K1.out.lt)
  have R1 := Lib.hid (R1.out.below hb R1.out.lt)
  have B := Lib.hid (bt B.out hb)
  clear hb d0 d1 d2 d3
  have d0 := K1.out.cell 0
  change _ = some (Value.int .i64 8) at d0
  have d1 := K1.out.cell 1
  change _ = some (Value.int .i64 100) at d1
  have d2 := K1.out.cell 2
  change _ = some (Value.int .i64 0) at d2
  have d3 := K1.out.cell 3
  change _ = some (Value.slice (some ⟨g1, 0, none⟩) 32 32) at d3
  go_wp2_with fail
  refine (fill8 g1 32 _ R1.out).mono ?_
  rintro e w6 ⟨rfl, hb⟩
  have B := Lib.hid (bt B.out hb)
  clear hb d0 d1 d2 d3 K1 R1
  go_wp2_with fail
  refine (C5.out _).mono ?_
  rintro e w7 ⟨⟨g2, rfl, hr⟩, hb⟩
  have Z2 : w.heap.size ≤ w7.heap.size := (bt B.out hb).size
  have R2 := Lib.hid (hr.alloc (.cells #[.int .i64 1, .int .i64 100, .int .i64 0, .slice (some ⟨g2, 0, none⟩) 4 4] 24))
  have B := Lib.hid (let B' := bt B.out hb; B'.alloc B'.size (.cells #[.int .i64 1, .int .i64 100, .int .i64 0, .slice (some ⟨g2, 0, none⟩) 4 4] 24))
  have K2 := Lib.hid (show Blk (w7.alloc (.cells #[.int .i64 1, .int .i64 100, .int .i64 0, .slice (some ⟨g2, 0, none⟩) 4 4] 24)) w7.heap.size 24 #[.int .i64 1, .int .i64 100, .int .i64 0, .slice (some ⟨g2, 0, none⟩) 4 4] from Blk.new' w7 _ _ _ rfl rfl)
  clear hb hr C5
  go_wp2_with fail
  refine (add1 100 0 0 g2 4 _ _ R2.out (by decide) (by decide) (by decide) (by decide) (by decide) (by decide) (LA.out.mono B.out) 1 1 (by decide) (by decide)).mono ?_
  rintro e w8 ⟨⟨g3, c3, rfl, -, hr⟩, hb⟩
  have K2 := Lib.hid (K2.out.below hb K2.out.lt)
  have B := Lib.hid (bt B.out hb)
  have R2 := Lib.hid hr
  obtain ⟨s2, hs2⟩ : ∃ s, w7.heap.size = s := ⟨_, rfl⟩
  rw [hs2] at K2 Z2 ⊢
  clear hb hr hs2
  go_wp2_with fail
  refine (add1 100 1 1 g3 c3 _ _ R2.out (by decide) (by decide) (by decide) (by decide) (by decide) (by decide) (LA.out.mono B.out) 2 2 (by decide) (by decide)).mono ?_
  rintro e w9 ⟨⟨g4, c4, rfl, -, hr⟩, hb⟩
  have K2 := Lib.hid (K2.out.below hb K2.out.lt)
  have B := Lib.hid (bt B.out hb)
  have R2 := Lib.hid hr
  clear hb hr
  go_wp2_with fail
  refine (add1 100 2 2 g4 c4 _ _ R2.out (by decide) (by decide) (by decide) (by decide) (by decide) (by decide) (LA.out.mono B.out) 3 3 (by decide) (by decide)).mono ?_
  rintro e w10 ⟨⟨g5, c5, rfl, hg5, hr⟩, hb⟩
  have n5 : s2 < g5 := Nat.lt_of_lt_of_le K2.out.lt hg5
  have K2 := Lib.hid (K2.out.below hb K2.out.lt)
  have B := Lib.hid (bt B.out hb)
  have R2 := Lib.hid hr
  clear hb hr
  have IX : ∀ S A sl, (Tryd.prog.info? 24).map (·.size) = some (#[.int .i64 1, .int .i64 S, .int .i64 A, sl] : Array Value).size := fun _ _ _ => by kernel_rfl
  have Ioq : ∀ S A g c, (#[.int .i64 1, .int .i64 S, .int .i64 A, .slice (some ⟨g, 0, none⟩) 4 c] : Array Value).all (·.oneCell') = true := fun _ _ _ _ => by simp [Value.oneCell']
  have IX := Lib.hid IX
  have Ioq := Lib.hid Ioq
  go_wp2_with (first | (with_reducible refine wpList_store_blk rfl _ _ _ rfl s2 24 #[.int .i64 1, .int .i64 100, .int .i64 0, .slice (some ⟨g2, 0, none⟩) 4 4] #[.int .i64 1, .int .i64 100, .int .i64 3, .slice (some ⟨g5, 0, none⟩) 4 c5] rfl rfl K2.out (IX.out _ _ _) rfl (Ioq.out _ _ _ _) rfl ?_) | fail)
  have K3 := Lib.hid (show Blk (w10.setRow s2 #[.int .i64 1, .int .i64 100, .int .i64 3, .slice (some ⟨g5, 0, none⟩) 4 c5]) s2 24 #[.int .i64 1, .int .i64 100, .int .i64 3, .slice (some ⟨g5, 0, none⟩) 4 c5] from K2.out.row_ _)
  have R3 := Lib.hid (show RowI (w10.setRow s2 #[.int .i64 1, .int .i64 100, .int .i64 3, .slice (some ⟨g5, 0, none⟩) 4 c5]) g5 (List.replicate 4 3) from R2.out.rowfar (by omega) _)
  have B := Lib.hid (show Below w.heap.size w (w10.setRow s2 #[.int .i64 1, .int .i64 100, .int .i64 3, .slice (some ⟨g5, 0, none⟩) 4 c5]) from below_setRow B.out Z2 _)
  clear K2 R2
  refine (C6.out _).mono ?_
  rintro e w11 ⟨⟨g6, rfl, hr⟩, hb⟩
  have K3 := Lib.hid (K3.out.below hb K3.out.lt)
  have R3 := Lib.hid (R3.out.below hb R3.out.lt)
  have B := Lib.hid (bt B.out hb)
  have R6 := Lib.hid hr
  clear hb hr C6
  obtain ⟨s3, hs3⟩ : ∃ s, w11.heap.size = s := ⟨_, rfl⟩
  have n3 : s2 < s3 := by rw [← hs3]; exact K3.out.lt
  have n35 : g5 < s3 := by rw [← hs3]; exact R3.out.lt
  have n6 : g6 < s3 := by rw [← hs3]; exact R6.out.lt
  have zs : w.heap.size ≤ s3 := by omega
  have K6 := Lib.hid (show Blk (w11.alloc (.cells #[.int .i64 1, .int .i64 4, .int .i64 0, .slice (some ⟨g6, 0, none⟩) 4 4] 24)) s3 24 #[.int .i64 1, .int .i64 4, .int .i64 0, .slice (some ⟨g6, 0, none⟩) 4 4] from Blk.new' w11 _ _ _ hs3 rfl)
  have K3 := Lib.hid (K3.out.alloc (.cells #[.int .i64 1, .int .i64 4, .int .i64 0, .slice (some ⟨g6, 0, none⟩) 4 4] 24))
  have R3 := Lib.hid (R3.out.alloc (.cells #[.int .i64 1, .int .i64 4, .int .i64 0, .slice (some ⟨g6, 0, none⟩) 4 4] 24))
  have R6 := Lib.hid (R6.out.alloc (.cells #[.int .i64 1, .int .i64 4, .int .i64 0, .slice (some ⟨g6, 0, none⟩) 4 4] 24))
  have B := Lib.hid (B.out.alloc B.out.size (.cells #[.int .i64 1, .int .i64 4, .int .i64 0, .slice (some ⟨g6, 0, none⟩) 4 4] 24))
  go_wp2
  try rw [hs3]
  go_loopw [13] (fun u13 wr => ∃ (k g c : Nat) (x : Int), k ≤ 4 ∧ u13 = .int .i64 k ∧ (k < 4 ∧ x = k ∨ k = 4 ∧ x = 2) ∧ Hid (RowI wr g (List.replicate 4 x)) ∧ Hid (Blk wr s3 24 #[.int .i64 1, .int .i64 4, .int .i64 x, .slice (some ⟨g, 0, none⟩) 4 c]) ∧ Hid (Blk wr s2 24 #[.int .i64 1, .int .i64 100, .int .i64 3, .slice (some ⟨g5, 0, none⟩) 4 c5]) ∧ Hid (RowI wr g5 (List.replicate 4 3)) ∧ Hid (Below w.heap.size w wr)) (fun u13 _ => 4 - (intOf u13).toNat)
  case atStart => exact ⟨0, g6, 4, 0, by omega, rfl, Or.inl ⟨by omega, rfl⟩, R6, K6, K3, R3, B⟩
  case round =>
    clear R6 K6 K3 R3 B
    obtain ⟨k, g, c, x, hk, rfl, hx, R6, K6, K3, R3, B⟩ := hrel
    by_cases hlt : k < 4
    · obtain rfl : x = (k : Int) := by omega
      clear hx
      obtain ⟨y, hy⟩ : ∃ y : Int, y = if (k : Int) + 1 = 4 then ((k : Int) + 1) / 2 else (k : Int) + 1 := ⟨_, rfl⟩
      have hy2 : k + 1 < 4 ∧ y = (k + 1 : Nat) ∨ k + 1 = 4 ∧ y = 2 := by
        by_cases h : k = 3
        · subst h; exact Or.inr ⟨rfl, hy⟩
        · rw [if_neg (by omega)] at hy; exact Or.inl ⟨by omega, by rw [hy]; simp⟩
      have AD := Lib.hid (add1 4 k k g c ⟨#[97]⟩ wr R6.out (by omega) (by omega) (by omega) (by omega) (by decide) (by decide) (LA.out.mono B.out) y y hy hy)
      have HY := Lib.hid hy2
      clear hy hy2
      have d0 := K6.out.cell 0
      change _ = some (Value.int .i64 1) at d0
      have d1 := K6.out.cell 1
      change _ = some (Value.int .i64 4) at d1
      have d2 := K6.out.cell 2
      change _ = some (Value.int .i64 (k : Int)) at d2
      have d3 := K6.out.cell 3
      change _ = some (Value.slice (some ⟨g, 0, none⟩) 4 c) at d3
      go_wp2_with fail
      refine AD.out.mono ?_
      rintro e w12 ⟨⟨g7, c7, rfl, hg7, hr⟩, hb⟩
      have n7 : s3 < g7 := Nat.lt_of_lt_of_le K6.out.lt hg7
      have K6 := Lib.hid (K6.out.below hb K6.out.lt)
      have K3 := Lib.hid (K3.out.below hb K3.out.lt)
      have R3 := Lib.hid (R3.out.below hb R3.out.lt)
      have R6 := Lib.hid hr
      have B := Lib.hid (bt B.out hb)
      clear hb hr AD d0 d1 d2 d3
      go_wp2_with (first | (with_reducible refine wpList_store_blk rfl _ _ _ rfl s3 24 #[.int .i64 1, .int .i64 4, .int .i64 k, .slice (some ⟨g, 0, none⟩) 4 c] #[.int .i64 1, .int .i64 4, .int .i64 y, .slice (some ⟨g7, 0, none⟩) 4 c7] rfl rfl K6.out (IX.out _ _ _) rfl (Ioq.out _ _ _ _) rfl ?_) | fail)
      go_roundw
      case rel => exact ⟨k + 1, g7, c7, y, by omega, by go_num, HY.out, Lib.hid (R6.out.rowfar (by omega) _), Lib.hid (K6.out.row_ _), Lib.hid (K3.out.rowfar (by omega) _), Lib.hid (R3.out.rowfar (by omega) _), Lib.hid (below_setRow B.out zs _)⟩
      case measure => simp [intOf]; omega
    · obtain rfl : x = 2 := by omega
      have hk4 : k = 4 := by omega
      clear hx
      have d0 := K3.out.cell 0
      change _ = some (Value.int .i64 1) at d0
      have d1 := K3.out.cell 1
      change _ = some (Value.int .i64 100) at d1
      have d2 := K3.out.cell 2
      change _ = some (Value.int .i64 3) at d2
      have d3 := K3.out.cell 3
      change _ = some (Value.slice (some ⟨g5, 0, none⟩) 4 c5) at d3
      go_wp2_with fail
      refine (count1 100 3 3 g5 c5 _ _ R3.out (by decide) (by decide) (LA.out.mono B.out)).mono ?_
      rintro e v1 ⟨rfl, hb⟩
      have K6 := Lib.hid (K6.out.below hb K6.out.lt)
      have K3 := Lib.hid (K3.out.below hb K3.out.lt)
      have R3 := Lib.hid (R3.out.below hb R3.out.lt)
      have R6 := Lib.hid (R6.out.below hb R6.out.lt)
      have B := Lib.hid (bt B.out hb)
      clear hb d0 d1 d2 d3
      have d0 := K3.out.cell 0
      change _ = some (Value.int .i64 1) at d0
      have d1 := K3.out.cell 1
      change _ = some (Value.int .i64 100) at d1
      have d2 := K3.out.cell 2
      change _ = some (Value.int .i64 3) at d2
      have d3 := K3.out.cell 3
      change _ = some (Value.slice (some ⟨g5, 0, none⟩) 4 c5) at d3
      go_wp2_with fail
      refine (count1 100 3 3 g5 c5 _ _ R3.out (by decide) (by decide) (LA.out.mono B.out)).mono ?_
      rintro e v2 ⟨rfl, hb⟩
      have K6 := Lib.hid (K6.out.below hb K6.out.lt)
      have K3 := Lib.hid (K3.out.below hb K3.out.lt)
      have R3 := Lib.hid (R3.out.below hb R3.out.lt)
      have R6 := Lib.hid (R6.out.below hb R6.out.lt)
      have B := Lib.hid (bt B.out hb)
      clear hb d0 d1 d2 d3
      have d0 := K3.out.cell 0
      change _ = some (Value.int .i64 1) at d0
      have d1 := K3.out.cell 1
      change _ = some (Value.int .i64 100) at d1
      have d2 := K3.out.cell 2
      change _ = some (Value.int .i64 3) at d2
      have d3 := K3.out.cell 3
      change _ = some (Value.slice (some ⟨g5, 0, none⟩) 4 c5) at d3
      go_wp2_with fail
      refine (count1 100 3 3 g5 c5 _ _ R3.out (by decide) (by decide) (LA.out.mono B.out)).mono ?_
      rintro e v3 ⟨rfl, hb⟩
      have K6 := Lib.hid (K6.out.below hb K6.out.lt)
      have K3 := Lib.hid (K3.out.below hb K3.out.lt)
      have R3 := Lib.hid (R3.out.below hb R3.out.lt)
      have R6 := Lib.hid (R6.out.below hb R6.out.lt)
      have B := Lib.hid (bt B.out hb)
      clear hb d0 d1 d2 d3
      have d0 := K6.out.cell 0
      change _ = some (Value.int .i64 1) at d0
      have d1 := K6.out.cell 1
      change _ = some (Value.int .i64 4) at d1
      have d2 := K6.out.cell 2
      change _ = some (Value.int .i64 2) at d2
      have d3 := K6.out.cell 3
      change _ = some (Value.slice (some ⟨g, 0, none⟩) 4 c) at d3
      go_wp2_with fail
      refine (count1 4 2 2 g c _ _ R6.out (by decide) (by decide) (LA.out.mono B.out)).mono ?_
      rintro e v4 ⟨rfl, hb⟩
      have K6 := Lib.hid (K6.out.below hb K6.out.lt)
      have K3 := Lib.hid (K3.out.below hb K3.out.lt)
      have R3 := Lib.hid (R3.out.below hb R3.out.lt)
      have R6 := Lib.hid (R6.out.below hb R6.out.lt)
      have B := Lib.hid (bt B.out hb)
      clear hb d0 d1 d2 d3
      go_wp2_with fail
      go_ret
      exact ⟨rfl, B.out⟩
end Go.Proofs.YtmmjkhamknfhpaaDoor
