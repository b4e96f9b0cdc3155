/- Contracts: where the cells of a key are. -/
import Derived.Test.YtmmjkhamknfhpaaDoorE
import Derived.Test.YtmmjkhamknfhpaaDoorHMM
import Derived.Test.YtmmjkhamknfhpaaDoorHII
import Derived.Test.YtmmjkhamknfhpaaDoorHNN
import Derived.Deep.Cut
namespace Go.Proofs.YtmmjkhamknfhpaaDoor
set_option linter.unusedVariables false
set_option linter.unusedSimpArgs false
open Go.RowKit
def num4 (d : List Nat) : Nat := d.getD 0 0 * 16777216 + d.getD 1 0 * 65536 + d.getD 2 0 * 256 + d.getD 3 0
/-- The number of a key in a row. -/
def pl (key : ByteArray) (row : Nat) : Nat := num4 ((sha (inL (80 + row) [key])).take 16)
theorem num4_lt (d : List Nat) (h : ∀ k, d.getD k 0 < 256) : num4 d < 4294967296 := by
  unfold num4
  have := h 0; have := h 1; have := h 2; have := h 3
  omega
theorem i64_or_nat (a b : Nat) (ha : a < 9223372036854775808) (hb : b < 9223372036854775808) : bits .or .i64 (a : Int) (b : Int) = ((a ||| b : Nat) : Int) := by
  have hx : a ||| b < 2 ^ 63 := Nat.or_lt_two_pow (by omega) (by omega)
  show IntKind.i64.wrap ((BitVec.ofInt 64 (a : Int) ||| BitVec.ofInt 64 (b : Int)).toNat : Int) = _
  rw [BitVec.toNat_or, ofInt64 a (by omega), ofInt64 b (by omega), IntKind.wrap_i64]
  omega
theorem or_add (i a b : Nat) (hb : b < 2 ^ i) : (a * 2 ^ i) ||| b = a * 2 ^ i + b := by
  rw [Nat.mul_comm, ← Nat.two_pow_add_eq_or_of_lt hb]
theorem or4 (a b c d : Nat) (hb : b < 256) (hc : c < 256) (hd : d < 256) : ((a * 16777216 ||| b * 65536) ||| c * 256) ||| d = a * 16777216 + b * 65536 + c * 256 + d := by
  have p24 : (2 : Nat) ^ 24 = 16777216 := by decide
  have p16 : (2 : Nat) ^ 16 = 65536 := by decide
  have p8 : (2 : Nat) ^ 8 = 256 := by decide
  have h1 := or_add 24 a (b * 65536) (by omega)
  have h2 := or_add 16 (a * 256 + b) (c * 256) (by omega)
  have h3 := or_add 8 (a * 65536 + b * 256 + c) d (by omega)
  rw [p24] at h1
  rw [p16] at h2
  rw [p8] at h3
  rw [h1, show a * 16777216 + b * 65536 = (a * 256 + b) * 65536 by omega, h2, show (a * 256 + b) * 65536 + c * 256 = (a * 65536 + b * 256 + c) * 256 by omega, h3]
theorem few_one {key : ByteArray} (h : key.size ≤ 400) : Few [key] := ⟨by simp, fun s hs => by rw [List.mem_singleton.1 hs]; exact h⟩
theorem be4_low (n : Nat) : ∀ x ∈ be4 n, x < 256 := by
  intro x hx
  unfold be4 at hx
  simp at hx
  omega
theorem sha_low (l : List Nat) : ∀ x ∈ sha l, x < 256 := by
  intro x hx
  unfold sha St.bytes at hx
  simp only [List.mem_append] at hx
  rcases hx with ((((((hx | hx) | hx) | hx) | hx) | hx) | hx) | hx <;> exact be4_low _ x hx
theorem strs_one {W : World} {g : Nat} {t : TypeId} {key : ByteArray} (h : Blk W g t #[.string key]) : StrsA W (some ⟨g, 0, none⟩) [key] := fun k hk => by
  have : k = 0 := by simpa using hk
  subst this
  exact ⟨g, 0, rfl, by rw [h.cell]; rfl⟩
set_option maxRecDepth 100000 in
set_option maxHeartbeats 400000 in
theorem place_any (key : ByteArray) (row W : Nat) (w : World) (hk : key.size ≤ 400) (hr : row < 4) (hW : ∃ k : Nat, k ≤ 12 ∧ W = 2 ^ k) (hla : LaidC w) :
    Calls Tryd.prog 19 #[.string key, .int .i64 row, .int .i64 W] w fun e w' => e = .returned (.int .i64 ((pl key row % W : Nat) : Int)) ∧ Below w.heap.size w w' := by
  have LA := Lib.hid hla
  obtain ⟨T, hT⟩ : ∃ T, 80 + row = T := ⟨_, rfl⟩
  have C := Lib.hid (fun (g : Nat) (X : World) (h : Blk X g 9 #[.string key]) (h2 : LaidC X) => of_any (T : Int) T (some ⟨g, 0, none⟩) 1 [key] X (by omega) (strs_one h) (few_one hk) h2)
  have hT2 : IntKind.i64.wrap (80 + (row : Int)) = (T : Int) := by rw [IntKind.wrap_i64]; omega
  have hT3 : 80 + (row : Int) = (T : Int) := by omega
  have hT4 : IntKind.i64.wrap (T : Int) = (T : Int) := by rw [IntKind.wrap_i64]; omega
  have ln : ((sha (inL T [key])).take 16).length = 16 := by rw [List.length_take, sha_len]; rfl
  have dlt : ∀ k, ((sha (inL T [key])).take 16).getD k 0 < 256 := getD_lt (by decide) fun x hx => sha_low _ x (List.mem_of_mem_take hx)
  have hpl : pl key row = num4 ((sha (inL T [key])).take 16) := by unfold pl; rw [hT]
  obtain ⟨D, hD⟩ : ∃ D, (sha (inL T [key])).take 16 = D := ⟨_, rfl⟩
  simp only [hD] at C dlt; rw [hD] at ln hpl
  have x0 := dlt 0; have x1 := dlt 1; have x2 := dlt 2; have x3 := dlt 3
  have cc := fun (X : World) (g k : Nat) (hk : k < 16) (h : Blk X g 59 (bvs D)) => (h.cell k).trans (bvs_at D k (by rw [ln]; exact hk))
  have IA := Lib.hid (show (Tryd.prog.info? 59).map (·.size) = some (bvs D).size by rw [bvs_size, ln]; kernel_rfl)
  have SZ := Lib.hid (show (bvs (List.replicate 16 0)).size = (bvs D).size by rw [bvs_size, bvs_size, ln]; rfl)
  have ON := Lib.hid (bvs_one D)
  have hnum : num4 D = D.getD 0 0 * 16777216 + D.getD 1 0 * 65536 + D.getD 2 0 * 256 + D.getD 3 0 := rfl
  have hlt := num4_lt D dlt
  obtain ⟨d0, e0⟩ : ∃ d, D.getD 0 0 = d := ⟨_, rfl⟩
  obtain ⟨d1, e1⟩ : ∃ d, D.getD 1 0 = d := ⟨_, rfl⟩
  obtain ⟨d2, e2⟩ : ∃ d, D.getD 2 0 = d := ⟨_, rfl⟩
  obtain ⟨d3, e3⟩ : ∃ d, D.getD 3 0 = d := ⟨_, rfl⟩
  have CC := Lib.hid (fun (X : World) (g : Nat) (h : Blk X g 59 (bvs D)) => (show X.cell? ⟨g, 0, none⟩ = some (bv d0) ∧ X.cell? ⟨g, 1, none⟩ = some (bv d1) ∧ X.cell? ⟨g, 2, none⟩ = some (bv d2) ∧ X.cell? ⟨g, 3, none⟩ = some (bv d3) from ⟨by rw [← e0]; exact cc X g 0 (by decide) h, by rw [← e1]; exact cc X g 1 (by decide) h, by rw [← e2]; exact cc X g 2 (by decide) h, by rw [← e3]; exact cc X g 3 (by decide) h⟩))
  rw [e0, e1, e2, e3] at hnum
  rw [e0] at x0; rw [e1] at x1; rw [e2] at x2; rw [e3] at x3
  have ho := or4 d0 d1 d2 d3 x1 x2 x3
  rw [← hnum, ← hpl] at ho
  rw [← hpl] at hlt
  obtain ⟨P, hP⟩ : ∃ P, pl key row = P := ⟨_, rfl⟩
  rw [hP] at ho hlt ⊢
  obtain ⟨A0, a0⟩ : ∃ A, d0 * 16777216 = A := ⟨_, rfl⟩
  obtain ⟨A1, a1⟩ : ∃ A, d1 * 65536 = A := ⟨_, rfl⟩
  obtain ⟨A2, a2⟩ : ∃ A, d2 * 256 = A := ⟨_, rfl⟩
  have s0 : (d0 : Int) * 16777216 = (A0 : Int) := by omega
  have s1 : (d1 : Int) * 65536 = (A1 : Int) := by omega
  have s2 : (d2 : Int) * 256 = (A2 : Int) := by omega
  have t0 : IntKind.i64.wrap (A0 : Int) = (A0 : Int) := by rw [IntKind.wrap_i64]; omega
  have t1 : IntKind.i64.wrap (A1 : Int) = (A1 : Int) := by rw [IntKind.wrap_i64]; omega
  have t2 : IntKind.i64.wrap (A2 : Int) = (A2 : Int) := by rw [IntKind.wrap_i64]; omega
  have t3 : IntKind.i64.wrap (d3 : Int) = (d3 : Int) := by rw [IntKind.wrap_i64]; omega
  have t4 : IntKind.i64.wrap (d0 : Int) = (d0 : Int) := by rw [IntKind.wrap_i64]; omega
  have t5 : IntKind.i64.wrap (d1 : Int) = (d1 : Int) := by rw [IntKind.wrap_i64]; omega
  have t6 : IntKind.i64.wrap (d2 : Int) = (d2 : Int) := by rw [IntKind.wrap_i64]; omega
  rw [a0, a1, a2] at ho
  have q1 := i64_or_nat A0 A1 (by omega) (by omega)
  have l1 : A0 ||| A1 < 2 ^ 32 := Nat.or_lt_two_pow (by omega) (by omega)
  obtain ⟨O1, h1⟩ : ∃ O, A0 ||| A1 = O := ⟨_, rfl⟩
  rw [h1] at q1 l1 ho
  have q2 := i64_or_nat O1 A2 (by omega) (by omega)
  have l2 : O1 ||| A2 < 2 ^ 32 := Nat.or_lt_two_pow l1 (by omega)
  obtain ⟨O2, h2⟩ : ∃ O, O1 ||| A2 = O := ⟨_, rfl⟩
  rw [h2] at q2 l2 ho
  have q3 := i64_or_nat O2 d3 (by omega) (by omega)
  rw [ho] at q3
  obtain ⟨k, hk12, hWk⟩ := hW
  have hWle := Nat.pow_le_pow_right (n := 2) (by decide) hk12
  have hWpos := Nat.two_pow_pos k
  have e12 : (2 : Nat) ^ 12 = 4096 := by decide
  have q4 := i64_and_nat P (W - 1) (by omega) (by omega)
  rw [hWk, Nat.and_two_pow_sub_one_eq_mod, ← hWk] at q4
  have w1 : (W : Int) - 1 = ((W - 1 : Nat) : Int) := by omega
  have w2 : IntKind.i64.wrap ((W : Int) - 1) = ((W - 1 : Nat) : Int) := by rw [IntKind.wrap_i64]; omega
  obtain ⟨Wm, hWm⟩ : ∃ x, W - 1 = x := ⟨_, rfl⟩
  rw [hWm] at q4 w1 w2
  have w3 : IntKind.i64.wrap (Wm : Int) = (Wm : Int) := by rw [IntKind.wrap_i64]; omega
  obtain ⟨R, hR⟩ : ∃ x, P % W = x := ⟨_, rfl⟩
  rw [hR] at q4 ⊢
  clear hla hT hk hr hD dlt ln hpl cc hnum e0 e1 e2 e3 x0 x1 x2 x3 ho hlt hP a0 a1 a2 l1 l2 h1 h2 hk12 hWk hWle hWpos e12 hWm hR
  go_enter Tryd.func19, Tryd.ntmps19
  go_wp2_with fail
  refine (C.out w.heap.size _ (Blk.new _ _ _) (LA.out.mono ((Below.refl _ _).alloc (Nat.le_refl _) _))).mono ?_
  rintro e w1' ⟨rfl, hb⟩
  have B1 := Lib.hid (show Below w.heap.size w w1' from bt ((Below.refl _ _).alloc (Nat.le_refl _) _) hb)
  clear hb C
  go_upto_region 2 with (with_reducible refine wpList_store_blk rfl _ _ _ rfl w1'.heap.size 59 (bvs (List.replicate 16 0)) (bvs D) rfl rfl (Blk.new' _ _ _ _ rfl rfl) IA.out SZ.out ON.out rfl ?_)
  generalize hW' : World.setRow _ w1'.heap.size (bvs D) = w2'
  have K2 := Lib.hid (show Blk w2' w1'.heap.size 59 (bvs D) by rw [← hW']; exact (Blk.new' w1' _ _ (bvs (List.replicate 16 0)) rfl rfl).row_ _)
  have B2 := Lib.hid (show Below w.heap.size w w2' by rw [← hW']; exact below_setRow (B1.out.alloc B1.out.size _) B1.out.size _)
  obtain ⟨G, hG⟩ : ∃ G, w1'.heap.size = G := ⟨_, rfl⟩
  rw [hG] at K2 ⊢
  clear hG hW' B1
  obtain ⟨c0, c1, c2, c3⟩ := CC.out _ _ K2.out
  go_wp2
  go_ret
  exact ⟨rfl, B2.out⟩
set_option maxRecDepth 100000 in
set_option maxHeartbeats 400000 in
theorem placeref_any (key : ByteArray) (row W : Nat) (w : World) (hk : key.size ≤ 400) (hr : row < 4) (hW : ∃ k : Nat, k ≤ 12 ∧ W = 2 ^ k) (hla : LaidK w) :
    Calls Tryd.prog 20 #[.string key, .int .i64 row, .int .i64 W] w fun e w' => e = .returned (.int .i64 ((pl key row % W : Nat) : Int)) ∧ Below w.heap.size w w' := by
  have LA := Lib.hid hla
  obtain ⟨T, hT⟩ : ∃ T, 80 + row = T := ⟨_, rfl⟩
  have C := Lib.hid (fun (g : Nat) (X : World) (h : Blk X g 9 #[.string key]) (h2 : LaidK X) => ofref_any (T : Int) T (some ⟨g, 0, none⟩) 1 [key] X (by omega) (strs_one h) (few_one hk) (fun a c V hb hW => sumref_any a c (inL T [key]) V hb (by have := inL_len T [key] (few_one hk).2; simp at this; omega) (h2.mono hW)))
  have hT2 : IntKind.i64.wrap (80 + (row : Int)) = (T : Int) := by rw [IntKind.wrap_i64]; omega
  have hT3 : 80 + (row : Int) = (T : Int) := by omega
  have hT4 : IntKind.i64.wrap (T : Int) = (T : Int) := by rw [IntKind.wrap_i64]; omega
  have ln : ((sha (inL T [key])).take 16).length = 16 := by rw [List.length_take, sha_len]; rfl
  have dlt : ∀ k, ((sha (inL T [key])).take 16).getD k 0 < 256 := getD_lt (by decide) fun x hx => sha_low _ x (List.mem_of_mem_take hx)
  have hpl : pl key row = num4 ((sha (inL T [key])).take 16) := by unfold pl; rw [hT]
  obtain ⟨D, hD⟩ : ∃ D, (sha (inL T [key])).take 16 = D := ⟨_, rfl⟩
  simp only [hD] at C dlt; rw [hD] at ln hpl
  have x0 := dlt 0; have x1 := dlt 1; have x2 := dlt 2; have x3 := dlt 3
  have cc := fun (X : World) (g k : Nat) (hk : k < 16) (h : Blk X g 59 (bvs D)) => (h.cell k).trans (bvs_at D k (by rw [ln]; exact hk))
  have IA := Lib.hid (show (Tryd.prog.info? 59).map (·.size) = some (bvs D).size by rw [bvs_size, ln]; kernel_rfl)
  have SZ := Lib.hid (show (bvs (List.replicate 16 0)).size = (bvs D).size by rw [bvs_size, bvs_size, ln]; rfl)
  have ON := Lib.hid (bvs_one D)
  have hnum : num4 D = D.getD 0 0 * 16777216 + D.getD 1 0 * 65536 + D.getD 2 0 * 256 + D.getD 3 0 := rfl
  have hlt := num4_lt D dlt
  obtain ⟨d0, e0⟩ : ∃ d, D.getD 0 0 = d := ⟨_, rfl⟩
  obtain ⟨d1, e1⟩ : ∃ d, D.getD 1 0 = d := ⟨_, rfl⟩
  obtain ⟨d2, e2⟩ : ∃ d, D.getD 2 0 = d := ⟨_, rfl⟩
  obtain ⟨d3, e3⟩ : ∃ d, D.getD 3 0 = d := ⟨_, rfl⟩
  have CC := Lib.hid (fun (X : World) (g : Nat) (h : Blk X g 59 (bvs D)) => (show X.cell? ⟨g, 0, none⟩ = some (bv d0) ∧ X.cell? ⟨g, 1, none⟩ = some (bv d1) ∧ X.cell? ⟨g, 2, none⟩ = some (bv d2) ∧ X.cell? ⟨g, 3, none⟩ = some (bv d3) from ⟨by rw [← e0]; exact cc X g 0 (by decide) h, by rw [← e1]; exact cc X g 1 (by decide) h, by rw [← e2]; exact cc X g 2 (by decide) h, by rw [← e3]; exact cc X g 3 (by decide) h⟩))
  rw [e0, e1, e2, e3] at hnum
  rw [e0] at x0; rw [e1] at x1; rw [e2] at x2; rw [e3] at x3
  rw [← hpl] at hlt
  obtain ⟨P, hP⟩ : ∃ P, pl key row = P := ⟨_, rfl⟩
  rw [hP] at hlt ⊢
  obtain ⟨A0, a0⟩ : ∃ A, d0 * 16777216 = A := ⟨_, rfl⟩
  obtain ⟨A1, a1⟩ : ∃ A, d1 * 65536 = A := ⟨_, rfl⟩
  obtain ⟨A2, a2⟩ : ∃ A, d2 * 256 = A := ⟨_, rfl⟩
  have s0 : (d0 : Int) * 16777216 = (A0 : Int) := by omega
  have s1 : (d1 : Int) * 65536 = (A1 : Int) := by omega
  have s2 : (d2 : Int) * 256 = (A2 : Int) := by omega
  have t0 : IntKind.i64.wrap (A0 : Int) = (A0 : Int) := by rw [IntKind.wrap_i64]; omega
  have t1 : IntKind.i64.wrap (A1 : Int) = (A1 : Int) := by rw [IntKind.wrap_i64]; omega
  have t2 : IntKind.i64.wrap (A2 : Int) = (A2 : Int) := by rw [IntKind.wrap_i64]; omega
  have t3 : IntKind.i64.wrap (d3 : Int) = (d3 : Int) := by rw [IntKind.wrap_i64]; omega
  have t4 : IntKind.i64.wrap (d0 : Int) = (d0 : Int) := by rw [IntKind.wrap_i64]; omega
  have t5 : IntKind.i64.wrap (d1 : Int) = (d1 : Int) := by rw [IntKind.wrap_i64]; omega
  have t6 : IntKind.i64.wrap (d2 : Int) = (d2 : Int) := by rw [IntKind.wrap_i64]; omega
  have hsum : A0 + A1 + A2 + d3 = P := by rw [← hP, hpl, hnum, a0, a1, a2]
  obtain ⟨S1, h1⟩ : ∃ O, A0 + A1 = O := ⟨_, rfl⟩
  rw [h1] at hsum
  obtain ⟨S2, h2⟩ : ∃ O, S1 + A2 = O := ⟨_, rfl⟩
  rw [h2] at hsum
  have q1 : (A0 : Int) + (A1 : Int) = (S1 : Int) := by omega
  have q2 : (S1 : Int) + (A2 : Int) = (S2 : Int) := by omega
  have q3 : (S2 : Int) + (d3 : Int) = (P : Int) := by omega
  have u1 : IntKind.i64.wrap (S1 : Int) = (S1 : Int) := by rw [IntKind.wrap_i64]; omega
  have u2 : IntKind.i64.wrap (S2 : Int) = (S2 : Int) := by rw [IntKind.wrap_i64]; omega
  have u3 : IntKind.i64.wrap (P : Int) = (P : Int) := by rw [IntKind.wrap_i64]; omega
  obtain ⟨k, hk12, hWk⟩ := hW
  have hWle := Nat.pow_le_pow_right (n := 2) (by decide) hk12
  have hWpos := Nat.two_pow_pos k
  have e12 : (2 : Nat) ^ 12 = 4096 := by decide
  obtain ⟨R, hR⟩ : ∃ x, P % W = x := ⟨_, rfl⟩
  have hRW : R < W := by rw [← hR]; exact Nat.mod_lt _ (by omega)
  have q4 : (P : Int) % (W : Int) = (R : Int) := by rw [← hR]; simp
  have q5 : (P : Int).tmod (W : Int) = (R : Int) := by rw [Int.tmod_eq_emod_of_nonneg (by omega)]; exact q4
  have W1 : 0 < W := by omega
  have q6 : ((W : Int) == 0) = false := beq_eq_false_iff_ne.2 (by omega)
  have u4 : IntKind.i64.wrap (R : Int) = (R : Int) := by rw [IntKind.wrap_i64]; omega
  rw [hR]
  clear hla hT hk hr hD dlt ln hpl cc hnum e0 e1 e2 e3 x0 x1 x2 x3 hlt hP a0 a1 a2 h1 h2 hsum hk12 hWk hWle e12 hR hRW
  go_enter Tryd.func20, Tryd.ntmps20
  go_wp2_with fail
  refine (C.out w.heap.size _ (Blk.new _ _ _) (LA.out.mono ((Below.refl _ _).alloc (Nat.le_refl _) _))).mono ?_
  rintro e w1' ⟨rfl, hb⟩
  have B1 := Lib.hid (show Below w.heap.size w w1' from bt ((Below.refl _ _).alloc (Nat.le_refl _) _) hb)
  clear hb C
  go_upto_region 2 with (with_reducible refine wpList_store_blk rfl _ _ _ rfl w1'.heap.size 59 (bvs (List.replicate 16 0)) (bvs D) rfl rfl (Blk.new' _ _ _ _ rfl rfl) IA.out SZ.out ON.out rfl ?_)
  generalize hW' : World.setRow _ w1'.heap.size (bvs D) = w2'
  have K2 := Lib.hid (show Blk w2' w1'.heap.size 59 (bvs D) by rw [← hW']; exact (Blk.new' w1' _ _ (bvs (List.replicate 16 0)) rfl rfl).row_ _)
  have B2 := Lib.hid (show Below w.heap.size w w2' by rw [← hW']; exact below_setRow (B1.out.alloc B1.out.size _) B1.out.size _)
  obtain ⟨G, hG⟩ : ∃ G, w1'.heap.size = G := ⟨_, rfl⟩
  rw [hG] at K2 ⊢
  clear hG hW' B1
  obtain ⟨c0, c1, c2, c3⟩ := CC.out _ _ K2.out
  go_wp2
  go_ret
  exact ⟨rfl, B2.out⟩
/-- The four cells of a key: the first k of them, and zeros. -/
def arrK (W : Nat) (p : Nat → Nat) (k : Nat) : Array Value := #[.int .i64 (if 0 < k then (idx W p 0 : Int) else 0), .int .i64 (if 1 < k then (idx W p 1 : Int) else 0), .int .i64 (if 2 < k then (idx W p 2 : Int) else 0), .int .i64 (if 3 < k then (idx W p 3 : Int) else 0)]
theorem arrK_set (W : Nat) (p : Nat → Nat) (k : Nat) (h : k < 4) : (arrK W p k).setIfInBounds k (.int .i64 (idx W p k : Int)) = arrK W p (k + 1) := by
  rcases (by omega : k = 0 ∨ k = 1 ∨ k = 2 ∨ k = 3) with h | h | h | h <;> subst h <;> rfl
theorem arrK_at (W : Nat) (p : Nat → Nat) (k : Nat) (h : k < 4) : (arrK W p 4)[k]? = some (.int .i64 (idx W p k : Int)) := by
  rcases (by omega : k = 0 ∨ k = 1 ∨ k = 2 ∨ k = 3) with h | h | h | h <;> subst h <;> rfl
set_option maxRecDepth 100000 in
set_option maxHeartbeats 400000 in
theorem places_any (key : ByteArray) (W : Nat) (w : World) (hk : key.size ≤ 400) (hW : ∃ k : Nat, k ≤ 12 ∧ W = 2 ^ k) (hla : LaidC w) :
    Calls Tryd.prog 37 #[.int .i64 W, .string key] w fun e w' => e = .returned (.agg (arrK W (pl key) 4)) ∧ Below w.heap.size w w' := by
  have LA := Lib.hid hla
  have C := Lib.hid (fun (row : Nat) (hr : row < 4) (X : World) (h2 : LaidC X) => place_any key row W X hk hr hW h2)
  have W4 : W ≤ 4096 := by
    obtain ⟨k, h1, h2⟩ := hW
    have := Nat.pow_le_pow_right (n := 2) (by decide) h1
    have e : (2 : Nat) ^ 12 = 4096 := by decide
    omega
  have W0 : 0 < W := by obtain ⟨k, -, h2⟩ := hW; rw [h2]; exact Nat.two_pow_pos k
  have W0 := Lib.hid W0
  obtain ⟨p, hp⟩ : ∃ p, pl key = p := ⟨_, rfl⟩
  simp only [hp] at C
  rw [hp]
  clear hla hk hW hp
  go_enter Tryd.func37, Tryd.ntmps37
  go_wp2
  go_loopw [7, 6] (fun u7 _ wr => ∃ k : Nat, k ≤ 4 ∧ u7 = .int .i64 k ∧ Hid (Blk wr w.heap.size 65 (arrK W p 0)) ∧ Hid (Blk wr (w.heap.size + 1) 65 (arrK W p k)) ∧ Hid (Below w.heap.size w wr)) (fun u7 _ _ => 4 - (intOf u7).toNat)
  case atStart => exact ⟨0, by omega, rfl, Lib.hid ((Blk.new' w _ _ _ rfl rfl).alloc _), Lib.hid (Blk.new' _ _ _ _ (World.size_alloc _ _) rfl), Lib.hid (by (repeat' (first | (with_reducible exact Below.refl _ _) | (with_reducible assumption) | (with_reducible refine Below.alloc ?_ ?_ _) | (with_reducible refine Below.drew ?_) | (with_reducible refine below_dn ?_) | (with_reducible refine Below.setCell ?_ ?_ _) | (with_reducible exact Nat.le_refl _) | omega | (simp only [World.size_alloc, World.size_setCell, World.size_drew]; omega) | (simp; omega) | (simp; done))))⟩
  case round =>
    obtain ⟨k, hk, rfl, K0, K1, hbe⟩ := hrel
    by_cases hlt : k < 4
    · have hm : k * W ≤ 3 * 4096 := Nat.mul_le_mul (by omega) W4
      obtain ⟨M, hM⟩ : ∃ M, k * W = M := ⟨_, rfl⟩
      have c := C.out k hlt
      have hR : p k % W < W := Nat.mod_lt _ W0.out
      have hidx : idx W p k = M + p k % W := by unfold idx; rw [hM]
      have hs := arrK_set W p k hlt
      rw [hidx] at hs
      obtain ⟨R, hR'⟩ : ∃ R, p k % W = R := ⟨_, rfl⟩
      simp only [hR'] at c
      rw [hR'] at hs hR
      obtain ⟨I, hI⟩ : ∃ I, M + R = I := ⟨_, rfl⟩
      rw [hI] at hs
      have CK := Lib.hid c; have HS := Lib.hid hs
      rw [hM] at hm
      have e1 : (k : Int) * (W : Int) = (M : Int) := by rw [← hM]; simp
      have e2 : (M : Int) + (R : Int) = (I : Int) := by omega
      have v1 : IntKind.i64.wrap (M : Int) = (M : Int) := by rw [IntKind.wrap_i64]; omega
      have v2 : IntKind.i64.wrap (I : Int) = (I : Int) := by rw [IntKind.wrap_i64]; omega
      have k4 : (k : Int) < 4 := by omega
      have k0 : (0 : Int) ≤ (k : Int) := by omega
      clear hM hidx hs hR' hI c hm hR
      go_wp2_with fail
      refine (CK.out _ (LA.out.mono hbe.out)).mono ?_
      rintro e w2 ⟨rfl, hb⟩
      have G0 := Lib.hid (K0.out.below hb K0.out.lt); have G1 := Lib.hid (K1.out.below hb K1.out.lt); have B2 := Lib.hid (bt hbe.out hb)
      have fr := G1.out.frozen k
      obtain ⟨od, hod⟩ : ∃ od, (arrK W p k)[k]? = some od := by
        rcases (by omega : k = 0 ∨ k = 1 ∨ k = 2 ∨ k = 3) with h | h | h | h <;> subst h <;> exact ⟨_, rfl⟩
      have dk := (G1.out.cell k).trans hod
      clear hb K0 K1 hbe hod
      go_wp2
      go_roundw
      case rel =>
        refine ⟨k + 1, by omega, by go_num, Lib.hid (G0.out.far (by simp) _), Lib.hid ?_, Lib.hid ?_⟩
        · rw [← HS.out]; exact G1.out.set_ k _
        · have := B2.out; (repeat' (first | (with_reducible exact Below.refl _ _) | (with_reducible assumption) | (with_reducible refine Below.alloc ?_ ?_ _) | (with_reducible refine Below.drew ?_) | (with_reducible refine below_dn ?_) | (with_reducible refine Below.setCell ?_ ?_ _) | (with_reducible exact Nat.le_refl _) | omega | (simp only [World.size_alloc, World.size_setCell, World.size_drew]; omega) | (simp; omega) | (simp; done)))
      case measure => simp [intOf]; omega
    · have hk4 : k = 4 := by omega
      rw [hk4] at K1
      have IA := Lib.hid (show (Tryd.prog.info? 65).map (·.size) = some (arrK W p 4).size by kernel_rfl)
      have SZ := Lib.hid (show (arrK W p 0).size = (arrK W p 4).size from rfl)
      have ON := Lib.hid (show (arrK W p 4).all (·.oneCell') = true by simp [arrK, Value.oneCell'])
      clear hk4
      go_wp2_with (first | (with_reducible refine wpList_load_blk rfl _ _ rfl (w.heap.size + 1) rfl 65 _ _ _ K1.out Tryd.underlying65 IA.out ?_) | (with_reducible refine wpList_store_blk rfl _ _ _ rfl w.heap.size 65 (arrK W p 0) (arrK W p 4) rfl rfl K0.out IA.out SZ.out ON.out rfl ?_))
      refine bodyPost_ret (v := .agg (arrK W p 4)) (results_cell_row rfl _ _ _ 65 _ (0, 0) _ rfl (K0.out.row_ _) Tryd.underlying65 rfl IA.out) rfl ⟨rfl, below_setRow hbe.out (Nat.le_refl _) _⟩
theorem cells_mk (W S A : Int) (a : Option Addr) (n cap : Nat) (key : ByteArray) (w : World) :
    Calls Tryd.prog 32 #[.agg #[.int .i64 W, .int .i64 S, .int .i64 A, .slice a n cap], .string key] w fun e w' => e = .returned (.func (.func 36) #[] #[.pointer (some ⟨w.heap.size, 0, none⟩), .pointer (some ⟨w.heap.size + 1, 0, none⟩)]) ∧ w' = (w.alloc (.cells #[.int .i64 W, .int .i64 S, .int .i64 A, .slice a n cap] 24)).alloc (.cells #[.string key] 9) := by
  go_enter Tryd.func32, Tryd.ntmps32
  go_wp2
  go_ret
  exact ⟨rfl, rfl⟩
end Go.Proofs.YtmmjkhamknfhpaaDoor
