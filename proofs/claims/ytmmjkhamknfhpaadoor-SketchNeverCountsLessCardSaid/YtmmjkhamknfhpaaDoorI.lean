/- Contracts: the reference's Count. -/
import Derived.Test.YtmmjkhamknfhpaaDoorH
import Derived.Deep.RegionHeld3
namespace Go.Proofs.YtmmjkhamknfhpaaDoor
set_option linter.unusedVariables false
set_option linter.unusedSimpArgs false
open Go.RowKit
set_option maxRecDepth 100000 in
set_option maxHeartbeats 1000000 in
theorem countref_any (W : Nat) (S A : Int) (a : Option Addr) (cap : Nat) (l : List Int) (key : ByteArray) (w : World) (hp : IntsA w a l) (hl : l.length = 4 * W) (hk : key.size ≤ 400) (hW : ∃ k : Nat, k ≤ 12 ∧ W = 2 ^ k) (hla : LaidK w) :
    Calls Tryd.prog 16 #[.agg #[.int .i64 W, .int .i64 S, .int .i64 A, .slice a l.length cap], .string key] w fun e w' => e = .returned (.int .i64 (cnt W (pl key) l)) ∧ Below w.heap.size w w' := by
  have W0 : 0 < W := by obtain ⟨k, -, h2⟩ := hW; rw [h2]; exact Nat.two_pow_pos k
  have W4 : W ≤ 4096 := by
    obtain ⟨k, h1, h2⟩ := hW
    have := Nat.pow_le_pow_right (n := 2) (by decide) h1
    have e : (2 : Nat) ^ 12 = 4096 := by decide
    omega
  obtain ⟨b, off, rfl, -⟩ := hp 0 (by omega)
  have LA := Lib.hid hla
  have HC := Lib.hid (show cnt W (pl key) l = cntK W (pl key) l 4 from rfl)
  have hIL : ∀ k, k < 4 → idx W (pl key) k < l.length := fun k h => by rw [hl]; exact idx_lt _ W0 h
  have hread : ∀ k, k < 4 → ∀ X, Below w.heap.size w X → X.cell? ⟨b, off + idx W (pl key) k, none⟩ = some (.int .i64 (l.getD (idx W (pl key) k) 0)) := fun k hk X hX => by
    obtain ⟨b', off', e, h1⟩ := (hp.mono hX) _ (hIL k hk)
    simp only [Option.some.injEq, Addr.mk.injEq, and_true] at e
    obtain ⟨rfl, rfl⟩ := e
    exact h1
  have RD := Lib.hid hread; have IL := Lib.hid hIL
  have PC := Lib.hid (fun (k : Nat) (h : k < 4) (X : World) (h2 : LaidK X) => placeref_any key k W X hk h hW h2)
  obtain ⟨n, hn⟩ : ∃ n, l.length = n := ⟨_, rfl⟩
  obtain ⟨p, hpl⟩ : ∃ p, pl key = p := ⟨_, rfl⟩
  rw [hn] at IL ⊢
  rw [hpl] at HC IL RD ⊢
  simp only [hpl] at PC
  have W0 := Lib.hid W0
  clear hp hla hl hIL hread hW hn hk hpl
  go_enter Tryd.func16, Tryd.ntmps16
  go_wp2
  go_loopw [6, 5, 7] (fun u6 u5 _ wr => ∃ (k : Nat) (c : Int), k ≤ 4 ∧ u6 = .int .i64 k ∧ u5 = .int .i64 c ∧ Hid (cntK W p l k = c) ∧ Hid (Blk wr w.heap.size 24 #[.int .i64 W, .int .i64 S, .int .i64 A, .slice (some ⟨b, off, none⟩) n cap]) ∧ Hid (Below w.heap.size w wr)) (fun u6 _ _ _ => 4 - (intOf u6).toNat)
  case atStart => exact ⟨0, 15, by omega, rfl, rfl, Lib.hid rfl, Lib.hid (Blk.new' _ _ _ _ rfl rfl), Lib.hid (by (repeat' (first | (with_reducible exact Below.refl _ _) | (with_reducible assumption) | (with_reducible refine Below.alloc ?_ ?_ _) | (with_reducible refine Below.drew ?_) | (with_reducible refine below_dn ?_) | (with_reducible refine Below.setCell ?_ ?_ _) | (with_reducible exact Nat.le_refl _) | omega | (simp only [World.size_alloc, World.size_setCell, World.size_drew]; omega) | (simp; omega) | (simp; done))))⟩
  case round =>
    obtain ⟨k, c, hk, rfl, rfl, hc, K, hbe⟩ := hrel
    by_cases hlt : k < 4
    · have c0 : wr.cell? ⟨w.heap.size, 0, none⟩ = some (.int .i64 W) := K.out.cell 0
      have c3 : wr.cell? ⟨w.heap.size, 3, none⟩ = some (.slice (some ⟨b, off, none⟩) n cap) := K.out.cell 3
      have q1 := RD.out k hlt wr hbe.out
      have il := IL.out k hlt
      have hm : k * W ≤ 3 * 4096 := Nat.mul_le_mul (by omega) W4
      obtain ⟨M, hM⟩ : ∃ M, k * W = M := ⟨_, rfl⟩
      have pc := PC.out k hlt
      have hR : p k % W < W := Nat.mod_lt _ W0.out
      have hidx : idx W p k = M + p k % W := by unfold idx; rw [hM]
      have hnx : cntK W p l (k + 1) = min c (l.getD (idx W p k) 0) := by rw [← hc.out]; rfl
      rw [hidx] at q1 il hnx
      obtain ⟨R, hR'⟩ : ∃ R, p k % W = R := ⟨_, rfl⟩
      simp only [hR'] at pc
      rw [hR'] at q1 il hnx hR
      obtain ⟨i, hI⟩ : ∃ I, M + R = I := ⟨_, rfl⟩
      rw [hI] at q1 il hnx
      obtain ⟨y, hy⟩ : ∃ y, l.getD i 0 = y := ⟨_, rfl⟩
      rw [hy] at q1 hnx
      rw [hM] at hm
      have P1 := Lib.hid pc
      have e1 : (k : Int) * (W : Int) = (M : Int) := by rw [← hM]; simp
      have e2 : (M : Int) + (R : Int) = (i : Int) := by omega
      have v1 : IntKind.i64.wrap (M : Int) = (M : Int) := by rw [IntKind.wrap_i64]; omega
      have v2 : IntKind.i64.wrap (i : Int) = (i : Int) := by rw [IntKind.wrap_i64]; omega
      have iL : (i : Int) < (n : Int) := by omega
      have i0 : (0 : Int) ≤ (i : Int) := by omega
      have NX := Lib.hid hnx
      have BD := Lib.hid (show Below w.heap.size w wr.drew from Below.drew hbe.out)
      clear hM hidx hR' hI hy pc hm hR hnx hc il
      go_wp2
      go_region_held3 (fun X => X.cell? ⟨w.heap.size, 0, none⟩ = some (.int .i64 W) ∧ X.cell? ⟨w.heap.size, 3, none⟩ = some (.slice (some ⟨b, off, none⟩) n cap) ∧ X.cell? ⟨b, off + i, none⟩ = some (.int .i64 y)) (first | exact ⟨c0, c3, q1⟩ | exact ⟨keep (W := World.drew wr) c0 hb2, keep (W := World.drew wr) c3 hb2, keep (W := World.drew wr) q1 hb2⟩) (first | (go_at_call 20; refine (P1.out _ (LA.out.mono BD.out)).mono ?_; rintro e w2 ⟨rfl, hb2⟩; have K2 := Lib.hid (K.out.drew.below hb2 K.out.lt); have B2 := Lib.hid (bt BD.out hb2)))
      by_cases hyc : y < c
      · have hm : min c y = y := Int.min_eq_right (by omega)
        rw [hm] at NX
        go_wp2
        go_roundw
        case rel => exact ⟨k + 1, y, by omega, by go_num, rfl, NX, K2, B2⟩
        case measure => simp [intOf]; omega
      · have hm : min c y = c := Int.min_eq_left (by omega)
        rw [hm] at NX
        go_wp2
        go_roundw
        case rel => exact ⟨k + 1, c, by omega, by go_num, rfl, NX, K2, B2⟩
        case measure => simp [intOf]; omega
    · have hk4 : k = 4 := by omega
      have hc' := hc.out
      rw [hk4, ← HC.out] at hc'
      have HF := Lib.hid hc'
      clear hc' hk4
      go_wp2
      go_ret
      exact ⟨by rw [HF.out]; rfl, hbe.out⟩
end Go.Proofs.YtmmjkhamknfhpaaDoor
