/- New blocks; the examples of the law's package, one by one. -/
import Derived.Test.YtlihndekeaefcaaJ
namespace Go.Proofs.Ytlihndekeaefcaa
set_option linter.unusedVariables false
set_option linter.unusedSimpArgs false
open Go.RowKit
theorem new_at (W : World) (cs : List Value) (t : TypeId) (k : Nat) (v : Value) (h : cs[k]? = some v) : (W.alloc (.cells cs.toArray t)).cell? ⟨W.heap.size, 0 + k, none⟩ = some v := by
  rw [Nat.zero_add, World.cell?_alloc_new]
  simpa using h
theorem bytes_new (zs : List Nat) (hb : ∀ x ∈ zs, x < 256) (W : World) : BytesA (W.alloc (.cells (zs.map bv).toArray 5)) (some ⟨W.heap.size, 0, none⟩) zs := by
  intro k hk
  refine ⟨W.heap.size, 0, rfl, new_at W _ 5 k _ (map_at bv zs 0 k hk), ?_⟩
  rw [getD_at 0 hk]
  exact hb _ (List.getElem_mem _)
theorem ints_new (zs : List Int) (hb : ∀ x ∈ zs, -9223372036854775808 ≤ x ∧ x ≤ 9223372036854775807) (W : World) : IntsA (W.alloc (.cells (zs.map (Value.int .i64)).toArray 3)) (some ⟨W.heap.size, 0, none⟩) zs := by
  intro k hk
  refine ⟨W.heap.size, 0, rfl, new_at W _ 3 k _ (map_at (Value.int .i64) zs 0 k hk), ?_⟩
  rw [getD_at 0 hk]
  exact hb _ (List.getElem_mem _)
theorem strs_new (zs : List ByteArray) (W : World) : StrsA (W.alloc (.cells (zs.map Value.string).toArray 9)) (some ⟨W.heap.size, 0, none⟩) zs := by
  intro k hk
  exact ⟨W.heap.size, 0, rfl, new_at W _ 9 k _ (map_at Value.string zs ByteArray.empty k hk)⟩
theorem digs_new (d : List Nat) (h16 : d.length = 16) (hb : ∀ x ∈ d, x < 256) (W : World) : DigsA (W.alloc (.cells (dca d) 57)) (some ⟨W.heap.size, 0, none⟩) [d] := by
  intro k hk
  obtain rfl : k = 0 := by simpa using hk
  refine ⟨W.heap.size, 0, rfl, h16, fun j hj => ⟨?_, ?_⟩⟩
  · have := new_at W (d.map bv) 57 j _ (map_at bv d 0 j (by omega))
    rw [Nat.zero_add] at this ⊢
    exact this
  · show d.getD j 0 < 256
    rw [getD_at 0 (by omega)]
    exact hb _ (List.getElem_mem _)
theorem ba {W W' : World} {o : Obj} {n : Nat} (h : Below n (W.alloc o) W') (hn : W.heap.size ≤ n) : Below W.heap.size W W' :=
  ((Below.refl W.heap.size W).alloc (Nat.le_refl _) o).trans (h.mono hn)
theorem ba2 {W W' : World} {o o' : Obj} {n : Nat} (h : Below n ((W.alloc o).alloc o') W') (hn : W.heap.size ≤ n) : Below W.heap.size W W' :=
  (((Below.refl W.heap.size W).alloc (Nat.le_refl _) o).alloc (by simp) o').trans (h.mono hn)
theorem ints_newN (zs : List Int) (hb : ∀ x ∈ zs, -9223372036854775808 ≤ x ∧ x ≤ 9223372036854775807) (W : World) (N : Nat) (hN : N = W.heap.size) : IntsA (W.alloc (.cells (zs.map (Value.int .i64)).toArray 3)) (some ⟨N, 0, none⟩) zs := by
  subst hN; exact ints_new zs hb W
theorem strs_newN (zs : List ByteArray) (W : World) (N : Nat) (hN : N = W.heap.size) : StrsA (W.alloc (.cells (zs.map Value.string).toArray 9)) (some ⟨N, 0, none⟩) zs := by
  subst hN; exact strs_new zs W
theorem digs_newN (d : List Nat) (h16 : d.length = 16) (hb : ∀ x ∈ d, x < 256) (W : World) (N : Nat) (hN : N = W.heap.size) : DigsA (W.alloc (.cells (dca d) 57)) (some ⟨N, 0, none⟩) [d] := by
  subst hN; exact digs_new d h16 hb W
theorem digs_cell {W : World} {b : Nat} {d : List Nat} (h : DigsA W (some ⟨b, 0, none⟩) [d]) (j : Nat) (hj : j < 16) : W.cell? ⟨b, j, none⟩ = some (bv (d.getD j 0)) := by
  obtain ⟨b', off', e, h1, h2⟩ := h 0 (by simp)
  simp only [Option.some.injEq, Addr.mk.injEq, and_true] at e
  obtain ⟨rfl, rfl⟩ := e
  have := (h2 j hj).1
  rw [Nat.zero_mul, Nat.add_zero, Nat.zero_add] at this
  exact this
theorem digs_load {W : World} {b : Nat} {d : List Nat} (h16 : d.length = 16) (h : DigsA W (some ⟨b, 0, none⟩) [d]) : (loadVar 57 ⟨b, 0, none⟩).run Try.prog W = .ok (.agg (dca d)) W := by
  obtain ⟨b', off', e, h1, h2⟩ := h 0 (by simp)
  simp only [Option.some.injEq, Addr.mk.injEq, and_true] at e
  obtain ⟨rfl, rfl⟩ := e
  exact load_digest d (dca d) rfl h16 W b 0 fun j hj => by
    have := (h2 j hj).1
    rw [Nat.zero_mul, Nat.add_zero] at this
    exact this
theorem val_gv {l : List Nat} {n : Int} {u e : Nat} (h : G l = (n, u, e)) : GV l = .tuple #[.int .i64 n, .int .i64 (u : Nat), .int .i64 (e : Nat)] := by unfold GV; rw [h]
theorem sane1 (W : World) (N : Nat) (hN : N = W.heap.size) : Calls Try.prog 24 #[.slice (some ⟨N, 0, none⟩) 3 3] (W.alloc (.cells #[.int .u8 128, .int .u8 1, .int .u8 9] 5)) fun e w' => e = .returned (.tuple #[.int .i64 64, .int .i64 2, .int .i64 0]) ∧ w' = W.alloc (.cells #[.int .u8 128, .int .u8 1, .int .u8 9] 5) := by
  subst hN
  have h := getInt_any (some ⟨W.heap.size, 0, none⟩) 3 [128, 1, 9] _ (bytes_new [128, 1, 9] (by decide) W) (by decide)
  rw [val_gv (n := 64) (u := 2) (e := 0) (by decide)] at h
  exact h.mono fun e w' ⟨h1, h2⟩ => ⟨h1, h2.symm⟩
theorem sane2 (W : World) (N : Nat) (hN : N = W.heap.size) : Calls Try.prog 24 #[.slice (some ⟨N, 0, none⟩) 1 1] (W.alloc (.cells #[.int .u8 128] 5)) fun e w' => e = .returned (.tuple #[.int .i64 0, .int .i64 0, .int .i64 10]) ∧ w' = W.alloc (.cells #[.int .u8 128] 5) := by
  subst hN
  have h := getInt_any (some ⟨W.heap.size, 0, none⟩) 1 [128] _ (bytes_new [128] (by decide) W) (by decide)
  rw [val_gv (n := 0) (u := 0) (e := 10) (by decide)] at h
  exact h.mono fun e w' ⟨h1, h2⟩ => ⟨h1, h2.symm⟩
theorem sane3 (W : World) (N : Nat) (hN : N = W.heap.size) : Calls Try.prog 24 #[.slice (some ⟨N, 0, none⟩) 2 2] (W.alloc (.cells #[.int .u8 128, .int .u8 0] 5)) fun e w' => e = .returned (.tuple #[.int .i64 0, .int .i64 0, .int .i64 11]) ∧ w' = W.alloc (.cells #[.int .u8 128, .int .u8 0] 5) := by
  subst hN
  have h := getInt_any (some ⟨W.heap.size, 0, none⟩) 2 [128, 0] _ (bytes_new [128, 0] (by decide) W) (by decide)
  rw [val_gv (n := 0) (u := 0) (e := 11) (by decide)] at h
  exact h.mono fun e w' ⟨h1, h2⟩ => ⟨h1, h2.symm⟩
theorem strB_ab : strB [97, 98] = { data := #[97, 98] } := by kernel_rfl
theorem strB_a : strB [97] = { data := #[97] } := by kernel_rfl
theorem strB_0 : strB [] = { data := #[] } := by kernel_rfl
theorem sane4 (W : World) (N : Nat) (hN : N = W.heap.size) : Calls Try.prog 26 #[.slice (some ⟨N, 0, none⟩) 4 4] (W.alloc (.cells #[.int .u8 4, .int .u8 97, .int .u8 98, .int .u8 7] 5)) fun e w' => e = .returned (.tuple #[.string { data := #[97, 98] }, .int .i64 3, .int .i64 0]) ∧ w' = W.alloc (.cells #[.int .u8 4, .int .u8 97, .int .u8 98, .int .u8 7] 5) := by
  subst hN
  have h := getBytes_any (some ⟨W.heap.size, 0, none⟩) 4 [4, 97, 98, 7] _ (by decide) (bytes_new [4, 97, 98, 7] (by decide) W) (by decide)
  unfold GBV at h
  rw [show GB [4, 97, 98, 7] = ([97, 98], 3, 0) by decide, strB_ab] at h
  exact h.mono fun e w' ⟨h1, h2⟩ => ⟨h1, h2.symm⟩
theorem sane5 (W : World) (N : Nat) (hN : N = W.heap.size) : Calls Try.prog 28 #[.slice (some ⟨N, 0, none⟩) 3 3] (W.alloc (.cells #[.int .u8 4, .int .u8 2, .int .u8 1] 5)) fun e w' => ∃ a cap, e = .returned (.tuple #[.slice a 2 cap, .int .i64 3, .int .i64 0]) ∧ IntsA w' a [1, -1] ∧ Below (W.heap.size + 1) (W.alloc (.cells #[.int .u8 4, .int .u8 2, .int .u8 1] 5)) w' := by
  subst hN
  have h := getInts_any (some ⟨W.heap.size, 0, none⟩) 3 [4, 2, 1] _ (by decide) (bytes_new [4, 2, 1] (by decide) W) (by decide)
  rw [show DL G 1 [4, 2, 1] = ([1, -1], 3, 0) by decide, World.size_alloc] at h
  refine h.mono ?_
  rintro e w' ⟨v, rfl, h2, h3⟩
  obtain ⟨a, cap, rfl, -, h4⟩ := OwnI.view h2 (by decide)
  exact ⟨a, cap, rfl, h4, h3⟩
theorem sane7 (W : World) (N : Nat) (hN : N = W.heap.size) : Calls Try.prog 31 #[.slice (some ⟨N, 0, none⟩) 5 5] (W.alloc (.cells #[.int .u8 4, .int .u8 0, .int .u8 2, .int .u8 97, .int .u8 5] 5)) fun e w' => ∃ a cap, e = .returned (.tuple #[.slice a 2 cap, .int .i64 4, .int .i64 0]) ∧ StrsA w' a [{ data := #[] }, { data := #[97] }] ∧ Below (W.heap.size + 1) (W.alloc (.cells #[.int .u8 4, .int .u8 0, .int .u8 2, .int .u8 97, .int .u8 5] 5)) w' := by
  subst hN
  have h := getStrings_any (some ⟨W.heap.size, 0, none⟩) 5 [4, 0, 2, 97, 5] _ (by decide) (bytes_new [4, 0, 2, 97, 5] (by decide) W) (by decide)
  rw [show DL GBs 1 [4, 0, 2, 97, 5] = ([{ data := #[] }, { data := #[97] }], 4, 0) by kernel_rfl, World.size_alloc] at h
  refine h.mono ?_
  rintro e w' ⟨v, rfl, h2, h3⟩
  obtain ⟨a, cap, rfl, -, h4⟩ := OwnS.view h2
  exact ⟨a, cap, rfl, h4, h3⟩
/-- The digest of the examples. -/
def dg : List Nat := [1, 2, 0, 0, 0, 0, 0, 0, 0, 0, 0, 0, 0, 0, 0, 0]
/-- What an encoder gives, as a slice in memory. -/
theorem gives_view {B : Nat} {w w' : World} {l : List Nat} {e : Ending} (h : Gives B w l e w') (hb : ∀ x ∈ l, x < 256) : ∃ a cap, e = .returned (.slice a l.length cap) ∧ l.length ≤ cap ∧ BytesA w' a l ∧ Below B w w' := by
  obtain ⟨v, rfl, h2, h3⟩ := h
  obtain ⟨a, cap, rfl, hc, h4⟩ := OwnB.view h2 hb
  exact ⟨a, cap, rfl, hc, h4, h3⟩
theorem sane6 (W : World) (N : Nat) (hN : N = W.heap.size) : Calls Try.prog 22 #[.slice (some ⟨N, 0, none⟩) 1 1] (W.alloc (.cells (dca dg) 57)) fun e w' => ∃ a cap, e = .returned (.slice a 17 cap) ∧ 17 ≤ cap ∧ BytesA w' a (2 :: dg) ∧ Below (W.heap.size + 1) (W.alloc (.cells (dca dg) 57)) w' := by
  subst hN
  have h := digests_any (some ⟨W.heap.size, 0, none⟩) 1 [dg] _ (digs_new dg (by decide) (by decide) W) (by decide) (by decide +kernel)
  rw [show encL id [dg] = 2 :: dg by decide +kernel, World.size_alloc] at h
  refine h.mono ?_
  intro e w' h
  exact gives_view h (by decide)
theorem sane6b (a : Option Addr) (cap : Nat) (W : World) (hc : 17 ≤ cap) (h : BytesA W a (2 :: dg)) : Calls Try.prog 34 #[.slice a 17 cap] W fun e w' => ∃ a cap, e = .returned (.tuple #[.slice a 1 cap, .int .i64 17, .int .i64 0]) ∧ DigsA w' a [dg] ∧ Below W.heap.size W w' := by
  have h := getDigests_any a cap (2 :: dg) _ hc h (by decide)
  rw [show DL GD 16 (2 :: dg) = ([dg], 17, 0) by decide +kernel] at h
  refine h.mono ?_
  rintro e w' ⟨v, rfl, h2, h3⟩
  obtain ⟨a, cap, rfl, -, h4⟩ := OwnG.view h2 (by decide) (by decide)
  exact ⟨a, cap, rfl, h4, h3⟩
theorem sane8 (W : World) (N : Nat) (hN : N = W.heap.size) : Calls Try.prog 20 #[.slice (some ⟨N, 0, none⟩) 2 2] (W.alloc (.cells #[.string { data := #[] }, .string { data := #[97] }] 9)) fun e w' => ∃ a cap, e = .returned (.slice a 4 cap) ∧ 4 ≤ cap ∧ BytesA w' a [4, 0, 2, 97] ∧ Below (W.heap.size + 1) (W.alloc (.cells #[.string { data := #[] }, .string { data := #[97] }] 9)) w' := by
  subst hN
  have h := strs_any (some ⟨W.heap.size, 0, none⟩) 2 [{ data := #[] }, { data := #[97] }] _ (strs_new [{ data := #[] }, { data := #[97] }] W) (by decide) (by decide +kernel) (fun k => by
    match k with
    | 0 => decide
    | 1 => decide
    | k + 2 => simp)
  rw [show encL (fun s => encS (sb s)) [{ data := #[] }, { data := #[97] }] = [4, 0, 2, 97] by decide +kernel, World.size_alloc] at h
  exact h.mono fun e w' h => gives_view h (by decide)
theorem sane9 (W : World) : Calls Try.prog 14 #[.int .i64 (-65)] W fun e w' => ∃ a cap, e = .returned (.slice a 2 cap) ∧ 2 ≤ cap ∧ BytesA w' a [129, 1] ∧ Below W.heap.size W w' := by
  have h := int_any (-65) W (by decide) (by decide)
  rw [show enc (-65) = [129, 1] by decide +kernel] at h
  exact h.mono fun e w' h => gives_view h (by decide)
theorem sane10 (W : World) : Calls Try.prog 16 #[.string { data := #[97, 98] }] W fun e w' => ∃ a cap, e = .returned (.slice a 3 cap) ∧ 3 ≤ cap ∧ BytesA w' a [4, 97, 98] ∧ Below W.heap.size W w' := by
  have h := bytes_any { data := #[97, 98] } W (by decide)
  rw [show encS (sb { data := #[97, 98] }) = [4, 97, 98] by decide +kernel] at h
  exact h.mono fun e w' h => gives_view h (by decide)
theorem sane11 (W : World) (N : Nat) (hN : N = W.heap.size) : Calls Try.prog 18 #[.slice (some ⟨N, 0, none⟩) 2 2] (W.alloc (.cells #[.int .i64 1, .int .i64 (-1)] 3)) fun e w' => ∃ a cap, e = .returned (.slice a 3 cap) ∧ 3 ≤ cap ∧ BytesA w' a [4, 2, 1] ∧ Below (W.heap.size + 1) (W.alloc (.cells #[.int .i64 1, .int .i64 (-1)] 3)) w' := by
  subst hN
  have h := ints_any (some ⟨W.heap.size, 0, none⟩) 2 [1, -1] _ (ints_new [1, -1] (by decide) W) (by decide) (by decide +kernel)
  rw [show encL enc [1, -1] = [4, 2, 1] by decide +kernel, World.size_alloc] at h
  exact h.mono fun e w' h => gives_view h (by decide)
/-- Two rows of the same bytes, the second new. -/
theorem same_new (zs : List Nat) (hb : ∀ x ∈ zs, x < 256) (hl : zs.length ≤ 1000) (a : Option Addr) (cap n : Nat) (hn : zs.length = n) (W : World) (h : BytesA W a zs) (N : Nat) (hN : N = W.heap.size) :
    Calls Try.prog 13 #[.slice a n cap, .slice (some ⟨N, 0, none⟩) n n] (W.alloc (.cells (zs.map bv).toArray 5)) fun e w' => e = .returned (.bool true) ∧ w' = W.alloc (.cells (zs.map bv).toArray 5) := by
  subst hn hN
  have := same_any a (some ⟨W.heap.size, 0, none⟩) cap zs.length zs zs _ (h.mono ((Below.refl _ _).alloc (Nat.le_refl _) _)) (bytes_new zs hb W) (by omega) (by omega)
  rw [decide_eq_true rfl] at this
  exact this.mono fun e w' ⟨h1, h2⟩ => ⟨h1, h2.symm⟩
end Go.Proofs.Ytlihndekeaefcaa
