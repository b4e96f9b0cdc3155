/- The examples: sanity of the law's package. -/
import Derived.Test.YtjeipkoomefekaaDoorT
import Derived.Lib.SlBytesConst
namespace Go.Proofs.YtjeipkoomefekaaDoor
set_option linter.unusedVariables false
set_option linter.unusedSimpArgs false
open Go.RowKit
theorem eqItems_same (d : Nat) (xs : List Nat) (n : Nat) (W : World) (hx : xs.length = n) : ∀ is : List Nat, (∀ i ∈ is, i < n) → (Op.eqItems (d + 1) 5 (Tryd.prog.cellsOf 5) (bvs xs) (bvs xs) is).run Tryd.prog W = .ok true W
  | [], _ => by simp [Op.eqItems]
  | i :: is, h => by
    have hi := h i (by simp)
    have ih := eqItems_same d xs n W hx is (fun j hj => h j (by simp [hj]))
    have e1 : Tryd.prog.cellsOf 5 = 1 := by kernel_rfl
    have ha := bvs_at xs i (by omega)
    have hp : (part 5 (bvs xs) (i * Tryd.prog.cellsOf 5)).run Tryd.prog W = .ok (bv (xs.getD i 0)) W := by
      rw [e1, Nat.mul_one]
      have h2 : (isAgg 5).run Tryd.prog W = .ok false W := by kernel_rfl
      simp [part, h2, ha]
    simp only [Op.eqItems, Sem.run_bind, hp, Result.andThen_ok]
    have h3 : (Op.equalIn (d + 1) 5 (bv (xs.getD i 0)) (bv (xs.getD i 0))).run Tryd.prog W = .ok true W := by
      have := run_equalIn_int (P := Tryd.prog) W d 5 .u8 .u8 ((xs.getD i 0 : Nat) : Int) ((xs.getD i 0 : Nat) : Int) Tryd.underlying5
      rw [beq_self_eq_true] at this
      exact this
    simp only [h3, Result.andThen_ok]
    simpa using ih
theorem equal_32 (xs : List Nat) (hx : xs.length = 32) (W : World) : (Op.equal 47 (.agg (bvs xs)) (.agg (bvs xs))).run Tryd.prog W = .ok true W := by
  obtain ⟨i, hi⟩ : ∃ i, Tryd.prog.info? 5 = some i := by
    obtain ⟨i0, hi, -⟩ := info_parts infoB
    exact ⟨_, hi⟩
  show (Op.equalIn (9999 + 1) 47 (.agg (bvs xs)) (.agg (bvs xs))).run Tryd.prog W = _
  rw [run_equalIn_array W 9999 (n := 32) (bvs xs) (bvs xs) Tryd.underlying47 hi]
  exact eqItems_same 9998 xs 32 W hx _ (fun i hi => by simpa using hi)
theorem wpList_load_g {P : Program} {ops : Array Oper} {rest : List Oper} {op : Oper} {a : Act} {w : World} {Q : Exit → Act → World → Prop} (hw : Region.wanted op (yielded ops a.tmps) = true) (ty : TypeId) (x : Operand) (ho : op.op = .load ty x)
    (g : Nat) (hx : a.eval x = .pointer (some ⟨g, 0, none⟩)) (t : TypeId) (cs : Array Value) (n : Nat) (e : TypeId) (hg : Blk w g t cs)
    (hu : P.underlying ty = some (.array n e)) (hi : (P.info? ty).map (·.size) = some cs.size)
    (h : wpList P ops Q rest (a.put op.dst (.agg cs)) w) : wpList P ops Q (op :: rest) a w := by
  unfold wpList
  rw [if_pos hw]
  exact Or.inl (wp_load_row ty x ho g hx t cs (0, 0) (.array n e) hg hu rfl hi h)
theorem equalIn_32 (xs : List Nat) (hx : xs.length = 32) (W : World) : (Op.equalIn 10000 47 (.agg (bvs xs)) (.agg (bvs xs))).run Tryd.prog W = .ok true W := equal_32 xs hx W
theorem crc_254 : crc [254] = 75628790 := by decide +kernel
theorem crc_ff : run 1099511627775 [255] = run 1099511627775 [255] ∧ run (run 1099511627775 [255]) [255] ^^^ 1099511627775 = 65535 := by decide +kernel
theorem crc_w : crc (bytesL [1099511627774]) = 1099435999222 := by decide +kernel
theorem join_1 : join (low 255) (low 255) 1 = 65535 := by decide +kernel
theorem join_2 : join (low 255) (low 0) 1 = 65280 := by decide +kernel
theorem join_3 : join (low 7) (low 9) 0 = 14 := by decide +kernel
theorem hex_abc : strB (hexL (sha [97, 98, 99])) = ⟨#[98, 97, 55, 56, 49, 54, 98, 102, 56, 102, 48, 49, 99, 102, 101, 97, 52, 49, 52, 49, 52, 48, 100, 101, 53, 100, 97, 101, 50, 50, 50, 51, 98, 48, 48, 51, 54, 49, 97, 51, 57, 54, 49, 55, 55, 97, 57, 99, 98, 52, 49, 48, 102, 102, 54, 49, 102, 50, 48, 48, 49, 53, 97, 100]⟩ := by decide +kernel
theorem hex_one : strB (hexL ((sha [1]).take 16)) = ⟨#[52, 98, 102, 53, 49, 50, 50, 102, 51, 52, 52, 53, 53, 52, 99, 53, 51, 98, 100, 101, 50, 101, 98, 98, 56, 99, 100, 50, 98, 55, 101, 51]⟩ := by decide +kernel
theorem sb_a : sb ⟨#[97]⟩ = [97] := by decide
theorem sb_bc : sb ⟨#[98, 99]⟩ = [98, 99] := by decide
theorem sb_ff : sb ⟨#[255]⟩ = [255] := by decide
theorem bytes_row {W : World} {g : Nat} {t : TypeId} {l : List Nat} {fr : Nat × Nat} (h : W.heap[g]? = some (.cells (bvs l) t fr)) (hl : ∀ x ∈ l, x < 256) : BytesA W (some ⟨g, 0, none⟩) l := fun k hk =>
  ⟨g, 0, rfl, by rw [Nat.zero_add, cell_of_row W g k (bvs l) t fr h]; exact bvs_at l k hk, getD_lt (by decide) hl k⟩
theorem Blk.ints {W : World} {g : Nat} {t : TypeId} {n : Int} (h : Blk W g t #[.int .i64 n]) : IntsA W (some ⟨g, 0, none⟩) [n] := fun k hk => by
  have : k = 0 := by simpa using hk
  subst this
  exact ⟨g, 0, rfl, by rw [h.cell]; rfl⟩
set_option maxRecDepth 100000 in
set_option maxHeartbeats 400000 in
theorem sane (w : World) (hla : LaidC w) : Calls Tryd.prog 15 #[] w fun e w' => e = .returned (.bool true) ∧ Below w.heap.size w w' := by
  have LA := Lib.hid hla
  have C1 := Lib.hid (fun (W : World) (g : Nat) (h : BytesA W (some ⟨g, 0, none⟩) [97, 98, 99]) (h2 : LaidC W) => hashsum_any [97, 98, 99] (some ⟨g, 0, none⟩) 3 W (by simp) h (by decide) (by simp) h2)
  have C2 := Lib.hid (fun (W : World) (h2 : LaidC W) => show Calls Tryd.prog 32 #[.agg (svA st0 z64 0), .string ⟨#[97]⟩] W (FedM W [97]) from add_any st0 z64 [] [97] ⟨#[97]⟩ W is_zero (by simp) sb_a h2)
  have C3 := Lib.hid (fun (s : St) (r : List Nat) (W : World) (h : Is s r [97]) (h2 : LaidC W) => show Calls Tryd.prog 32 #[.agg (svA s r 1), .string ⟨#[98, 99]⟩] W (FedM W [97, 98, 99]) from add_any s r [97] [98, 99] ⟨#[98, 99]⟩ W h (by simp) sb_bc h2)
  have C4 := Lib.hid (fun (s : St) (r : List Nat) (W : World) (h : Is s r [97, 98, 99]) (h2 : LaidC W) => show Calls Tryd.prog 33 #[.agg (svA s r 3)] W _ from sum_any s r [97, 98, 99] W h (by simp) h2)
  have C5 := Lib.hid (fun (W : World) (h2 : LaidC W) => of_none 1 1 W (by decide) h2)
  have C6 := Lib.hid (fun (W : World) (g : Nat) (h : Blk W g 5 (bvs [254])) (h2 : LaidC W) => crc40_any (some ⟨g, 0, none⟩) 1 [254] W (h.bytes (by decide)) (by simp) h2)
  rw [crc_254] at C6
  have C7 := Lib.hid (fun (W : World) (h2 : LaidC W) => crcadd_any 1099511627775 ⟨#[255]⟩ [255] W (by decide) sb_ff (by simp) h2)
  have r1 := run_lt [255] 1099511627775 (by decide)
  have C8 := Lib.hid (fun (W : World) (h2 : LaidC W) => crcadd_any (run 1099511627775 [255]) ⟨#[255]⟩ [255] W r1 sb_ff (by simp) h2)
  have C9 := Lib.hid (fun (W : World) => value_any (run (run 1099511627775 [255]) [255]) W (run_lt [255] _ r1))
  rw [crc_ff.2] at C9
  obtain ⟨R1, hR1⟩ : ∃ R, run 1099511627775 [255] = R := ⟨_, rfl⟩
  rw [hR1] at C7 C8 C9
  obtain ⟨R2, hR2⟩ : ∃ R, run R1 [255] = R := ⟨_, rfl⟩
  rw [hR2] at C8 C9
  have C10 := Lib.hid (fun (W : World) (g : Nat) (h : Blk W g 3 #[.int .i64 1099511627774]) (h2 : LaidC W) => words_any (some ⟨g, 0, none⟩) 1 [1099511627774] W h.ints (by simp) h2)
  rw [crc_w] at C10
  have D1 := Lib.hid (fun W : World => join_any 255 255 1 W (by decide))
  have D2 := Lib.hid (fun W : World => join_any 255 0 1 W (by decide))
  have D3 := Lib.hid (fun W : World => join_any 7 9 0 W (by decide))
  have D4 := Lib.hid (fun W : World => join_neg 1 1 (-1) W (by decide))
  rw [join_1] at D1; rw [join_2] at D2; rw [join_3] at D3
  have slt : ∀ x ∈ sha [97, 98, 99], x < 256 := St.bytes_lt _
  have sl : (sha [97, 98, 99]).length = 32 := rfl
  have olt : ∀ x ∈ (sha [1]).take 16, x < 256 := fun x hx => St.bytes_lt _ x (List.mem_of_mem_take hx)
  have ol : ((sha [1]).take 16).length = 16 := rfl
  have E1 := Lib.hid (fun W : World => bytes32_any (sha [97, 98, 99]) W sl slt)
  have E2 := Lib.hid (fun W : World => hex_any (strB (sha [97, 98, 99])) (sha [97, 98, 99]) W (sb_strB _ slt) (by rw [sl]; decide))
  rw [hex_abc] at E2
  have E3 := Lib.hid (fun W : World => text_any ((sha [1]).take 16) W ol olt)
  have E4 := Lib.hid (fun W : World => hex_any (strB ((sha [1]).take 16)) ((sha [1]).take 16) W (sb_strB _ olt) (by rw [ol]; decide))
  rw [hex_one] at E4
  have EQ := Lib.hid (fun W : World => equalIn_32 (sha [97, 98, 99]) sl W)
  have IA := Lib.hid (show (Tryd.prog.info? 47).map (·.size) = some (bvs (sha [97, 98, 99])).size by rw [bvs_size, sl]; kernel_rfl)
  have SZ := Lib.hid (show (bvs (List.replicate 32 0)).size = (bvs (sha [97, 98, 99])).size by rw [bvs_size, bvs_size, sl]; rfl)
  have IB := Lib.hid (show (Tryd.prog.info? 58).map (·.size) = some (bvs ((sha [1]).take 16)).size by rw [bvs_size, ol]; kernel_rfl)
  have SB := Lib.hid (show (bvs (List.replicate 16 0)).size = (bvs ((sha [1]).take 16)).size by rw [bvs_size, bvs_size, ol]; rfl)
  obtain ⟨S, hS⟩ : ∃ S, sha [97, 98, 99] = S := ⟨_, rfl⟩
  obtain ⟨O, hO⟩ : ∃ O, (sha [1]).take 16 = O := ⟨_, rfl⟩
  rw [hS] at C1 C4 E1 E2 EQ IA SZ; rw [hO] at C5 E3 E4 IB SB
  obtain ⟨T1, hT1⟩ : ∃ T, strB S = T := ⟨_, rfl⟩
  obtain ⟨T2, hT2⟩ : ∃ T, strB O = T := ⟨_, rfl⟩
  rw [hT1] at E1 E2; rw [hT2] at E3 E4
  clear hla r1 hR1 hR2 slt sl olt ol hS hO hT1 hT2
  have kc := fun (w : World) (C : Array Value) (n c : Nat) => Lib.run_convert_bytes_const (P := Tryd.prog) w 22 5 C n c Tryd.underlying22 Tryd.underlying5
  go_enter Tryd.func15, Tryd.ntmps15
  go_wp2_with (fail)
  refine (C1.out _ w.heap.size (bytes_row (l := [97, 98, 99]) (heap_alloc_new w _) (by decide)) (LA.out.mono (by (repeat' (first | (with_reducible exact Below.refl _ _) | (with_reducible assumption) | (with_reducible refine Below.alloc ?_ ?_ _) | (with_reducible refine Below.drew ?_) | (with_reducible refine below_dn ?_) | (with_reducible refine Below.setCell ?_ ?_ _) | (with_reducible exact Nat.le_refl _) | omega | (simp only [World.size_alloc, World.size_setCell, World.size_drew]; omega) | (simp; omega) | (simp; done)))))).mono ?_
  rintro e w1 ⟨rfl, hb1⟩
  have B1 := Lib.hid (show Below w.heap.size w w1 from bt (by (repeat' (first | (with_reducible exact Below.refl _ _) | (with_reducible assumption) | (with_reducible refine Below.alloc ?_ ?_ _) | (with_reducible refine Below.drew ?_) | (with_reducible refine below_dn ?_) | (with_reducible refine Below.setCell ?_ ?_ _) | (with_reducible exact Nat.le_refl _) | omega | (simp only [World.size_alloc, World.size_setCell, World.size_drew]; omega) | (simp; omega) | (simp; done)))) hb1)
  clear hb1  
  go_wp2_with ((first | (with_reducible refine wpList_store_blk rfl _ _ _ rfl w1.heap.size 47 (bvs (List.replicate 32 0)) _ rfl rfl (Blk.new' _ _ _ _ rfl rfl) IA.out SZ.out (bvs_one _) rfl ?_)))
  refine (begin_any _).mono ?_
  rintro e w2 ⟨rfl, hb2⟩
  have hz2 := hb2.size
  rw [setRow_size] at hz2
  simp only [World.size_alloc] at hz2
  have t1_2 := Lib.hid (show Blk w2 w1.heap.size 47 (bvs S) from ((Blk.new' w1 47 _ (bvs (List.replicate 32 0)) rfl rfl).row_ _).below hb2 (by rw [setRow_size]; simp only [World.size_alloc]; omega))
  have B2 := Lib.hid (show Below w.heap.size w w2 from bt (below_setRow (B1.out.alloc B1.out.size _) B1.out.size _) hb2)
  clear hb2 hz2 B1
  go_wp2_with (fail)
  refine (C2.out _ (LA.out.mono B2.out)).mono ?_
  rintro e w3 ⟨s1, r1, hI1, rfl, hb3⟩
  have B3 := Lib.hid (show Below w.heap.size w w3 from bt (B2.out) hb3)
  have t1_3 := Lib.hid (show Blk w3 w1.heap.size 47 (bvs S) from (t1_2.out).below hb3 (by (try simp only [setRow_size, World.size_alloc]); first | omega | (have := t1_2.out.lt; omega)))
  have HI1 := Lib.hid hI1
  clear hb3 t1_2 B2
  clear hI1
  go_wp2_with (fail)
  refine (C3.out s1 r1 _ HI1.out (LA.out.mono B3.out)).mono ?_
  rintro e w4 ⟨s2, r2, hI2, rfl, hb4⟩
  have B4 := Lib.hid (show Below w.heap.size w w4 from bt (B3.out) hb4)
  have t1_4 := Lib.hid (show Blk w4 w1.heap.size 47 (bvs S) from (t1_3.out).below hb4 (by (try simp only [setRow_size, World.size_alloc]); first | omega | (have := t1_3.out.lt; omega)))
  have HI2 := Lib.hid hI2
  clear hb4 t1_3 B3
  clear hI2
  go_wp2_with (fail)
  refine (C4.out s2 r2 _ HI2.out (LA.out.mono B4.out)).mono ?_
  rintro e w5 ⟨rfl, hb5⟩
  have B5 := Lib.hid (show Below w.heap.size w w5 from bt (B4.out) hb5)
  have t1_5 := Lib.hid (show Blk w5 w1.heap.size 47 (bvs S) from (t1_4.out).below hb5 (by (try simp only [setRow_size, World.size_alloc]); first | omega | (have := t1_4.out.lt; omega)))
  clear hb5 t1_4 B4
  go_wp2_with ((first | (with_reducible refine wpList_store_blk rfl _ _ _ rfl w5.heap.size 47 (bvs (List.replicate 32 0)) _ rfl rfl (Blk.new' _ _ _ _ rfl rfl) IA.out SZ.out (bvs_one _) rfl ?_)))
  refine (C5.out _ (LA.out.mono (below_setRow (B5.out.alloc B5.out.size _) B5.out.size _))).mono ?_
  rintro e w6 ⟨rfl, hb6⟩
  have hz6 := hb6.size
  rw [setRow_size] at hz6
  simp only [World.size_alloc] at hz6
  have t1_6 := Lib.hid (show Blk w6 w1.heap.size 47 (bvs S) from ((t1_5.out.alloc _).rowfar (by have := t1_5.out.lt; omega) _).below hb6 (by have := t1_5.out.lt; rw [setRow_size]; simp only [World.size_alloc]; omega))
  have t2_6 := Lib.hid (show Blk w6 w5.heap.size 47 (bvs S) from ((Blk.new' w5 47 _ (bvs (List.replicate 32 0)) rfl rfl).row_ _).below hb6 (by rw [setRow_size]; simp only [World.size_alloc]; omega))
  have B6 := Lib.hid (show Below w.heap.size w w6 from bt (below_setRow (B5.out.alloc B5.out.size _) B5.out.size _) hb6)
  clear hb6 hz6 B5 t1_5
  go_wp2_with ((first | (with_reducible refine wpList_store_blk rfl _ _ _ rfl w6.heap.size 58 (bvs (List.replicate 16 0)) _ rfl rfl (Blk.new' _ _ _ _ rfl rfl) IB.out SB.out (bvs_one _) rfl ?_)))
  refine (C6.out _ (w6.heap.size + 1) (Blk.new' _ 5 _ _ (by rw [setRow_size]; simp) rfl) (LA.out.mono ((below_setRow (B6.out.alloc B6.out.size _) B6.out.size _).alloc (by rw [setRow_size]; have := B6.out.size; simp only [World.size_alloc]; omega) _))).mono ?_
  rintro e w7 ⟨rfl, hb7⟩
  have hz7 := hb7.size
  simp only [World.size_alloc, setRow_size] at hz7
  have t1_7 := Lib.hid (show Blk w7 w1.heap.size 47 (bvs S) from (((t1_6.out.alloc _).rowfar (by have := t1_6.out.lt; omega) _).alloc _).below hb7 (by have := t1_6.out.lt; simp only [World.size_alloc, setRow_size]; omega))
  have t2_7 := Lib.hid (show Blk w7 w5.heap.size 47 (bvs S) from (((t2_6.out.alloc _).rowfar (by have := t2_6.out.lt; omega) _).alloc _).below hb7 (by have := t2_6.out.lt; simp only [World.size_alloc, setRow_size]; omega))
  have t3_7 := Lib.hid (show Blk w7 w6.heap.size 58 (bvs O) from (((Blk.new' w6 58 _ (bvs (List.replicate 16 0)) rfl rfl).row_ _).alloc _).below hb7 (by simp only [World.size_alloc, setRow_size]; omega))
  have B7 := Lib.hid (show Below w.heap.size w w7 from bt ((below_setRow (B6.out.alloc B6.out.size _) B6.out.size _).alloc (by rw [setRow_size]; have := B6.out.size; simp only [World.size_alloc]; omega) _) hb7)
  clear hb7 hz7 B6 t1_6 t2_6
  go_wp2_with (fail)
  refine (crcbegin_any _).mono ?_
  rintro e w8 ⟨rfl, hb8⟩
  have B8 := Lib.hid (show Below w.heap.size w w8 from bt (B7.out) hb8)
  have t1_8 := Lib.hid (show Blk w8 w1.heap.size 47 (bvs S) from (t1_7.out).below hb8 (by (try simp only [setRow_size, World.size_alloc]); first | omega | (have := t1_7.out.lt; omega)))
  have t2_8 := Lib.hid (show Blk w8 w5.heap.size 47 (bvs S) from (t2_7.out).below hb8 (by (try simp only [setRow_size, World.size_alloc]); first | omega | (have := t2_7.out.lt; omega)))
  have t3_8 := Lib.hid (show Blk w8 w6.heap.size 58 (bvs O) from (t3_7.out).below hb8 (by (try simp only [setRow_size, World.size_alloc]); first | omega | (have := t3_7.out.lt; omega)))
  clear hb8 t1_7 t2_7 t3_7 B7
  go_wp2_with (fail)
  refine (C7.out _ (LA.out.mono B8.out)).mono ?_
  rintro e w9 ⟨rfl, hb9⟩
  have B9 := Lib.hid (show Below w.heap.size w w9 from bt (B8.out) hb9)
  have t1_9 := Lib.hid (show Blk w9 w1.heap.size 47 (bvs S) from (t1_8.out).below hb9 (by (try simp only [setRow_size, World.size_alloc]); first | omega | (have := t1_8.out.lt; omega)))
  have t2_9 := Lib.hid (show Blk w9 w5.heap.size 47 (bvs S) from (t2_8.out).below hb9 (by (try simp only [setRow_size, World.size_alloc]); first | omega | (have := t2_8.out.lt; omega)))
  have t3_9 := Lib.hid (show Blk w9 w6.heap.size 58 (bvs O) from (t3_8.out).below hb9 (by (try simp only [setRow_size, World.size_alloc]); first | omega | (have := t3_8.out.lt; omega)))
  clear hb9 t1_8 t2_8 t3_8 B8
  go_wp2_with (fail)
  refine (C8.out _ (LA.out.mono B9.out)).mono ?_
  rintro e w10 ⟨rfl, hb10⟩
  have B10 := Lib.hid (show Below w.heap.size w w10 from bt (B9.out) hb10)
  have t1_10 := Lib.hid (show Blk w10 w1.heap.size 47 (bvs S) from (t1_9.out).below hb10 (by (try simp only [setRow_size, World.size_alloc]); first | omega | (have := t1_9.out.lt; omega)))
  have t2_10 := Lib.hid (show Blk w10 w5.heap.size 47 (bvs S) from (t2_9.out).below hb10 (by (try simp only [setRow_size, World.size_alloc]); first | omega | (have := t2_9.out.lt; omega)))
  have t3_10 := Lib.hid (show Blk w10 w6.heap.size 58 (bvs O) from (t3_9.out).below hb10 (by (try simp only [setRow_size, World.size_alloc]); first | omega | (have := t3_9.out.lt; omega)))
  clear hb10 t1_9 t2_9 t3_9 B9
  go_wp2_with (fail)
  refine (C9.out _).mono ?_
  rintro e w11 ⟨rfl, hb11⟩
  have B11 := Lib.hid (show Below w.heap.size w w11 from bt (B10.out) hb11)
  have t1_11 := Lib.hid (show Blk w11 w1.heap.size 47 (bvs S) from (t1_10.out).below hb11 (by (try simp only [setRow_size, World.size_alloc]); first | omega | (have := t1_10.out.lt; omega)))
  have t2_11 := Lib.hid (show Blk w11 w5.heap.size 47 (bvs S) from (t2_10.out).below hb11 (by (try simp only [setRow_size, World.size_alloc]); first | omega | (have := t2_10.out.lt; omega)))
  have t3_11 := Lib.hid (show Blk w11 w6.heap.size 58 (bvs O) from (t3_10.out).below hb11 (by (try simp only [setRow_size, World.size_alloc]); first | omega | (have := t3_10.out.lt; omega)))
  clear hb11 t1_10 t2_10 t3_10 B10
  go_wp2_with (fail)
  refine (C10.out _ w11.heap.size (Blk.new' _ 3 _ _ rfl rfl) (LA.out.mono (B11.out.alloc B11.out.size _))).mono ?_
  rintro e w12 ⟨rfl, hb12⟩
  have B12 := Lib.hid (show Below w.heap.size w w12 from bt (B11.out.alloc B11.out.size _) hb12)
  have t1_12 := Lib.hid (show Blk w12 w1.heap.size 47 (bvs S) from (t1_11.out.alloc _).below hb12 (by (try simp only [setRow_size, World.size_alloc]); first | omega | (have := t1_11.out.lt; omega)))
  have t2_12 := Lib.hid (show Blk w12 w5.heap.size 47 (bvs S) from (t2_11.out.alloc _).below hb12 (by (try simp only [setRow_size, World.size_alloc]); first | omega | (have := t2_11.out.lt; omega)))
  have t3_12 := Lib.hid (show Blk w12 w6.heap.size 58 (bvs O) from (t3_11.out.alloc _).below hb12 (by (try simp only [setRow_size, World.size_alloc]); first | omega | (have := t3_11.out.lt; omega)))
  clear hb12 t1_11 t2_11 t3_11 B11
  go_wp2_with fail
  refine (D1.out _).mono ?_
  rintro e w13 ⟨rfl, rfl⟩
  go_wp2_with fail
  refine (D2.out _).mono ?_
  rintro e w13 ⟨rfl, rfl⟩
  go_wp2_with fail
  refine (D3.out _).mono ?_
  rintro e w13 ⟨rfl, rfl⟩
  go_wp2_with fail
  refine (D4.out _).mono ?_
  rintro e w13 ⟨rfl, rfl⟩
  go_wp2_with (first | (with_reducible refine wpList_load_blk rfl _ _ rfl _ rfl 47 _ _ _ t1_12.out Tryd.underlying47 IA.out ?_))
  refine (E1.out _).mono ?_
  rintro e w13 ⟨rfl, hb13⟩
  have B13 := Lib.hid (show Below w.heap.size w w13 from bt (B12.out) hb13)
  have t1_13 := Lib.hid (show Blk w13 w1.heap.size 47 (bvs S) from (t1_12.out).below hb13 (by (try simp only [setRow_size, World.size_alloc]); first | omega | (have := t1_12.out.lt; omega)))
  have t2_13 := Lib.hid (show Blk w13 w5.heap.size 47 (bvs S) from (t2_12.out).below hb13 (by (try simp only [setRow_size, World.size_alloc]); first | omega | (have := t2_12.out.lt; omega)))
  have t3_13 := Lib.hid (show Blk w13 w6.heap.size 58 (bvs O) from (t3_12.out).below hb13 (by (try simp only [setRow_size, World.size_alloc]); first | omega | (have := t3_12.out.lt; omega)))
  clear hb13 t1_12 t2_12 t3_12 B12
  go_wp2_with (fail)
  refine (E2.out _).mono ?_
  rintro e w14 ⟨rfl, hb14⟩
  have B14 := Lib.hid (show Below w.heap.size w w14 from bt (B13.out) hb14)
  have t1_14 := Lib.hid (show Blk w14 w1.heap.size 47 (bvs S) from (t1_13.out).below hb14 (by (try simp only [setRow_size, World.size_alloc]); first | omega | (have := t1_13.out.lt; omega)))
  have t2_14 := Lib.hid (show Blk w14 w5.heap.size 47 (bvs S) from (t2_13.out).below hb14 (by (try simp only [setRow_size, World.size_alloc]); first | omega | (have := t2_13.out.lt; omega)))
  have t3_14 := Lib.hid (show Blk w14 w6.heap.size 58 (bvs O) from (t3_13.out).below hb14 (by (try simp only [setRow_size, World.size_alloc]); first | omega | (have := t3_13.out.lt; omega)))
  clear hb14 t1_13 t2_13 t3_13 B13
  have eq := EQ.out
  go_wp2_with (first | (refine wpList_load_g (by rfl) _ _ rfl _ rfl 47 _ _ _ t1_14.out Tryd.underlying47 IA.out ?_) | (refine wpList_load_g (by rfl) _ _ rfl _ rfl 47 _ _ _ t2_14.out Tryd.underlying47 IA.out ?_) | (refine wpList_load_g (by rfl) _ _ rfl _ rfl 58 _ _ _ t3_14.out Tryd.underlying58 IB.out ?_))
  clear eq
  refine (E3.out _).mono ?_
  rintro e w15 ⟨rfl, hb15⟩
  have B15 := Lib.hid (show Below w.heap.size w w15 from bt B14.out hb15)
  clear hb15 B14 t1_14 t2_14 t3_14
  go_wp2_with fail
  refine (E4.out _).mono ?_
  rintro e w16 ⟨rfl, hb16⟩
  have B16 := Lib.hid (show Below w.heap.size w w16 from bt B15.out hb16)
  clear hb16 B15
  go_wp2
  go_ret
  exact ⟨rfl, B16.out⟩
end Go.Proofs.YtjeipkoomefekaaDoor
