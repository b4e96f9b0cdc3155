/- The iterator over the cells of a key. -/
import Derived.Test.YtmmjkhamknfhpaaDoorR
namespace Go.Proofs.YtmmjkhamknfhpaaDoor
set_option linter.unusedVariables false
set_option linter.unusedSimpArgs false
open Go.RowKit Go.Shelf
attribute [local go_sem] Oper.semAt_some
theorem keeps_below {W W' : World} (h : Below W.heap.size W W') : KeepsOthers W W' := ⟨h.size, fun b o hb _ => (h.block b (Array.getElem?_eq_some_iff.1 hb).1).trans hb⟩
theorem index_arr (W : Nat) (p : Nat → Nat) (k : Nat) (h : k < 4) (X : World) : (Instr.index 65 (.agg (arrK W p 4)) (.int .i64 (k : Int))).run Tryd.prog X = .ok (.int .i64 (idx W p k : Int)) X := by
  have hn : 0 ≤ (k : Int) ∧ (k : Int) < ((4 : Nat) : Int) := by omega
  have hz : (sizeOf 3).run Tryd.prog X = .ok 1 X := by kernel_rfl
  have hp := run_part_plain (P := Tryd.prog) (w := X) (e := 3) (by kernel_rfl) (xs := arrK W p 4) (off := k) (arrK_at W p k h)
  simp [Instr.index, run_underlying Tryd.underlying65, asIntOf, hn, go_sem, hz, hp, h, arrK_at W p k h]
set_option maxRecDepth 100000 in
set_option maxHeartbeats 1000000 in
theorem cells_in (n : Nat) (hn : 1 ≤ n) (Bs Bk g off len cap W : Nat) (key : ByteArray) (I : Nat → World → Prop) (fit : Int → Int → Nat → Prop)
    (hk : key.size ≤ 400) (hW : ∃ k : Nat, k ≤ 12 ∧ W = 2 ^ k) (hl : len = 4 * W)
    (hI : ∀ k X, I k X → X.cell? ⟨Bs, 0, none⟩ = some (.int .i64 W) ∧ X.cell? ⟨Bs, 3, none⟩ = some (.slice (some ⟨g, off, none⟩) len cap) ∧ X.cell? ⟨Bk, 0, none⟩ = some (.string key) ∧ LaidC X ∧
      (k < 4 → ∃ y : Int, X.cell? ⟨g, off + idx W (pl key) k, none⟩ = some (.int .i64 y) ∧ fit (idx W (pl key) k : Int) y k))
    (hstay : ∀ k X X', I k X → Below X.heap.size X X' → I k X') :
    Iterates Fence.wide n Tryd.prog 36 #[.pointer (some ⟨Bs, 0, none⟩), .pointer (some ⟨Bk, 0, none⟩)] I fit (fun _ _ k => k + 1) 0 (fun k => k = 4) := by
  intro l J hJ hY X hJ0
  have W0 : 0 < W := by obtain ⟨k, -, h2⟩ := hW; rw [h2]; exact Nat.two_pow_pos k
  have PL := Lib.hid (fun (Y : World) (h : LaidC Y) => places_any key W Y hk hW h)
  have IX := Lib.hid (fun (k : Nat) (h : k < 4) => idx_lt (pl key) W0 h)
  have HI := Lib.hid hI; have HS := Lib.hid hstay; have HJ := Lib.hid hJ; have HY := Lib.hid hY; have HL := Lib.hid hl
  obtain ⟨c0, -, ck, la, -⟩ := HI.out _ _ (HJ.out.1 _ _ hJ0)
  have LA := Lib.hid la
  have J0 := Lib.hid hJ0
  clear hJ hY hI hstay hk hW hl la hJ0 W0
  refine callsIn_of_wp Tryd.func36 rfl trivial ?_ rfl
  simp only [Tryd.ntmps36, List.size_toArray, List.length_cons, List.length_nil, Nat.reduceAdd, Nat.reduceSub, Array.replicate_succ, Array.replicate_zero, List.push_toArray, List.append_toArray, List.nil_append, List.cons_append]
  gi_wp2_with (gi_at_call 37; fail)
  refine ⟨trivial, ?_⟩
  refine (callsIn_wide.2 (PL.out _ LA.out)).mono ?_
  rintro e w1 ⟨rfl, hb1⟩
  have J1 := Lib.hid (HJ.out.2 _ _ _ _ J0.out (HS.out _ _ _ (HJ.out.1 _ _ J0.out) hb1) (keeps_below hb1))
  clear hb1 J0 c0 ck LA PL
  gi_wp2
  gi_loopw [10, 5] (fun i _ wr => ∃ k : Nat, k ≤ 4 ∧ i = .int .i64 k ∧ Hid (J k wr)) (fun i _ _ => 4 - (intOf i).toNat)
  case atStart => exact ⟨0, by omega, rfl, J1⟩
  case round =>
    clear J1
    obtain ⟨k, hk, rfl, hJk⟩ := hrel
    by_cases hlt : k < 4
    · obtain ⟨-, cs, -, -, hq⟩ := HI.out _ _ (HJ.out.1 _ _ hJk.out)
      obtain ⟨y, q1, hf⟩ := hq hlt
      have ix := fun Y : World => index_arr W (pl key) k hlt Y
      have il := IX.out k hlt
      obtain ⟨i, hi⟩ : ∃ i, idx W (pl key) k = i := ⟨_, rfl⟩
      simp only [hi] at ix
      rw [hi] at q1 hf il
      have iL : (i : Int) < (len : Int) := by have := HL.out; omega
      have i0 : (0 : Int) ≤ (i : Int) := by omega
      obtain ⟨fn, tmps, assign, body, hy, hR⟩ := HY.out (i : Int) y k _ hf hJk.out
      clear hi il hf hq
      gi_wp2
      refine hR.mono ?_
      rintro e W3 ⟨rfl, hJ3⟩
      have J3 := Lib.hid hJ3
      clear hJ3
      gi_wp2
      go_roundw
      case rel => exact ⟨k + 1, by omega, by go_num, J3⟩
      case measure => simp [intOf]; omega
    · have hk4 : k = 4 := by omega
      have J4 := Lib.hid (show J 4 _ by have := hJk.out; rwa [hk4] at this)
      gi_wp2
      go_end0
      exact ⟨⟨_, rfl⟩, 4, rfl, J4.out⟩
end Go.Proofs.YtmmjkhamknfhpaaDoor
