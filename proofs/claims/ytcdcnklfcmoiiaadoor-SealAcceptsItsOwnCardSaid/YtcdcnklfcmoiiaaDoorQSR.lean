/- Contracts: ShortStamp and ShortEpoch of the reference. -/
import Derived.Test.YtcdcnklfcmoiiaaDoorQEP
import Derived.Test.YtcdcnklfcmoiiaaDoorQZD
namespace Go.Proofs.YtcdcnklfcmoiiaaDoor
set_option linter.unusedVariables false
set_option linter.unusedSimpArgs false
open Go.RowKit Go.Sort
set_option maxRecDepth 100000 in
set_option maxHeartbeats 1000000 in
theorem shortStamp_any (ad va tg : ByteArray) (st sz lo hi ga se : Int) (B : List Nat) (S : List Nat) (w : World) (hB : B.length = 16) :
    Calls Tryd.prog 27 #[.agg (recC [.string ad, .string va, .int .i64 st, .int .i64 sz] B [.string tg, .int .i64 lo, .int .i64 hi, .int .i64 ga, .int .i64 se] S)] w fun e w' => e = .returned (.bool (shortB [ad, va, tg] 3)) ∧ Below w.heap.size w w' := by
  have SH := Lib.hid (fun (g : Nat) (X : World) (h : Blk X g 9 #[.string ad, .string va, .string tg]) => short_any (some ⟨g, 0, none⟩) 3 [ad, va, tg] 3 X (strs_blk (l := [ad, va, tg]) h) (by simp))
  simp only [List.length_cons, List.length_nil, Nat.zero_add, Nat.reduceAdd] at SH
  obtain ⟨R, hR⟩ : ∃ R, shortB [ad, va, tg] 3 = R := ⟨_, rfl⟩
  simp only [hR] at SH
  rw [hR]
  have HB := Lib.hid hB
  clear hR hB
  obtain ⟨C, hC⟩ : ∃ C, (recC [.string ad, .string va, .int .i64 st, .int .i64 sz] B [.string tg, .int .i64 lo, .int .i64 hi, .int .i64 ga, .int .i64 se] S) = C := ⟨_, rfl⟩
  obtain ⟨G, hG⟩ : ∃ G, w.heap.size = G := ⟨_, rfl⟩
  have K1 := Lib.hid (show Blk (w.alloc (.cells C 58)) G 58 (recC [.string ad, .string va, .int .i64 st, .int .i64 sz] B [.string tg, .int .i64 lo, .int .i64 hi, .int .i64 ga, .int .i64 se] S) from by rw [hC]; exact Blk.new' w _ _ _ hG rfl)
  have B0 := Lib.hid (show Below w.heap.size w (w.alloc (.cells C 58)) by (repeat' (first | (with_reducible exact Below.refl _ _) | (with_reducible assumption) | (with_reducible refine Below.alloc ?_ ?_ _) | (with_reducible refine Below.drew ?_) | (with_reducible refine below_dn ?_) | (with_reducible refine Below.setCell ?_ ?_ _) | (with_reducible exact Nat.le_refl _) | omega | (simp only [World.size_alloc, World.size_setCell, World.size_drew]; omega) | (simp; omega) | (simp; done))))
  rw [hC]
  clear hC
  go_enter Tryd.func27, Tryd.ntmps27
  go_upto_region 1 with (fail)
  try rw [hG]
  generalize hw0 : w.alloc (.cells C 58) = w0 at K1 B0 ⊢
  clear hw0 hG
  obtain ⟨xa0, xa1, xa2, xa3, xc0, xc1, xc2, xc3, xc4⟩ := stamp_cells HB.out K1.out
  obtain ⟨Z, hZ⟩ : ∃ Z, w0.heap.size = Z := ⟨_, rfl⟩
  have K2 := Lib.hid (show Blk (w0.alloc (.cells #[.string ad, .string va, .string tg] 9)) Z 9 #[.string ad, .string va, .string tg] from Blk.new' w0 _ _ _ hZ rfl)
  replace B0 := Lib.hid (B0.out.alloc B0.out.size (.cells #[.string ad, .string va, .string tg] 9))
  go_wp2_with fail
  try rw [hZ]
  refine (SH.out Z _ K2.out).mono ?_
  rintro e w2 ⟨rfl, hb⟩
  replace B0 := Lib.hid (B0.out.trans (hb.mono B0.out.size))
  clear hb
  go_wp2
  go_ret
  exact ⟨rfl, B0.out⟩
def shortE (pl : List Pu) (rl : List Dg) : Bool := decide ((∀ k, k < pl.length → (pl.getD k pu0).2.1.size ≤ 200) ∧ pl.length ≤ 10 ∧ rl.length ≤ 10)
theorem shortE_ok {pl : List Pu} {rl : List Dg} (h : shortE pl rl = true) (hk : ∀ x ∈ pl, i64Ok x.1) : EpOk pl rl := by
  obtain ⟨h1, h2, h3⟩ := of_decide_eq_true h
  refine ⟨h2, h3, fun x hx => ⟨hk x hx, ?_⟩⟩
  obtain ⟨k, hlt, e⟩ := List.getElem_of_mem hx
  have := h1 k hlt
  rw [List.getD_eq_getElem?_getD, List.getElem?_eq_getElem hlt] at this
  subst e
  exact this
set_option maxRecDepth 100000 in
set_option maxHeartbeats 1000000 in
theorem shortEpoch_any (nu lo hi se : Int) (B : List Nat) (S : List Nat) (pa : Option Addr) (pc : Nat) (pl : List Pu) (ra : Option Addr) (rc : Nat) (rl : List Dg) (w : World) (hB : B.length = 16) (hm : EpM w pa pl ra rl) (hN1 : pl.length ≤ 9223372036854775807) (hN2 : rl.length ≤ 9223372036854775807) :
    Calls Tryd.prog 28 #[.agg (recC [.int .i64 nu] B [.int .i64 lo, .int .i64 hi, .slice pa pl.length pc, .slice ra rl.length rc, .int .i64 se] S)] w fun e w' => e = .returned (.bool (shortE pl rl)) ∧ Below w.heap.size w w' := by
  have HM := Lib.hid hm
  obtain ⟨N, hN⟩ : ∃ n, pl.length = n := ⟨_, rfl⟩
  obtain ⟨M, hM⟩ : ∃ n, rl.length = n := ⟨_, rfl⟩
  have HN := Lib.hid hN
  have HF := Lib.hid (fun (k : Nat) (hk : k < N) (h : 200 < (pl.getD k pu0).2.1.size) => show shortE pl rl = false from decide_eq_false fun q => by have := q.1 k (by omega); omega)
  have HT := Lib.hid (fun (h : ∀ k, k < N → (pl.getD k pu0).2.1.size ≤ 200) => show decide ((N : Int) ≤ 10 ∧ (M : Int) ≤ 10) = shortE pl rl from decide_eq_decide.mpr ⟨fun q => ⟨fun k hk => h k (by omega), by omega, by omega⟩, fun q => ⟨by have := q.2.1; omega, by have := q.2.2; omega⟩⟩)
  obtain ⟨R, hR⟩ : ∃ R, shortE pl rl = R := ⟨_, rfl⟩
  simp only [hR] at HF HT
  rw [hR, hN, hM]
  rw [hN] at hN1
  rw [hM] at hN2
  have N1 := Lib.hid hN1
  have N2 := Lib.hid hN2
  have HB := Lib.hid hB
  clear hR hN hM hN1 hN2 hm hB
  obtain ⟨C, hC⟩ : ∃ C, (recC [.int .i64 nu] B [.int .i64 lo, .int .i64 hi, .slice pa N pc, .slice ra M rc, .int .i64 se] S) = C := ⟨_, rfl⟩
  obtain ⟨G, hG⟩ : ∃ G, w.heap.size = G := ⟨_, rfl⟩
  have K1 := Lib.hid (show Blk (w.alloc (.cells C 62)) G 62 (recC [.int .i64 nu] B [.int .i64 lo, .int .i64 hi, .slice pa N pc, .slice ra M rc, .int .i64 se] S) from by rw [hC]; exact Blk.new' w _ _ _ hG rfl)
  have B0 := Lib.hid (show Below w.heap.size w (w.alloc (.cells C 62)) by (repeat' (first | (with_reducible exact Below.refl _ _) | (with_reducible assumption) | (with_reducible refine Below.alloc ?_ ?_ _) | (with_reducible refine Below.drew ?_) | (with_reducible refine below_dn ?_) | (with_reducible refine Below.setCell ?_ ?_ _) | (with_reducible exact Nat.le_refl _) | omega | (simp only [World.size_alloc, World.size_setCell, World.size_drew]; omega) | (simp; omega) | (simp; done))))
  rw [hC]
  clear hC
  go_enter Tryd.func28, Tryd.ntmps28
  go_upto_region 1 with (fail)
  try rw [hG]
  generalize hw0 : w.alloc (.cells C 62) = w0 at K1 B0 ⊢
  clear hw0 hG
  go_wp2
  go_loopw [3] (fun u3 wr => ∃ k : Nat, k ≤ N ∧ u3 = .int .i64 k ∧ Hid (∀ j, j < k → (pl.getD j pu0).2.1.size ≤ 200) ∧ Hid (Blk wr G 62 (recC [.int .i64 nu] B [.int .i64 lo, .int .i64 hi, .slice pa N pc, .slice ra M rc, .int .i64 se] S)) ∧ Hid (Below w.heap.size w wr)) (fun u3 _ => (N - intOf u3).toNat)
  case atStart => exact ⟨0, by omega, rfl, Lib.hid (fun j h => absurd h (by omega)), K1, B0⟩
  case round =>
    clear K1 B0
    obtain ⟨k, hk, rfl, HZ, K1, B0⟩ := hrel
    have n1 := N1.out
    have n2 := N2.out
    obtain ⟨xa0, xc0, xc1, xc2, xc3, xc4⟩ := epoch_cells HB.out K1.out
    by_cases hlt : k < N
    · have t0 : decide ((k : Int) < (N : Int)) = true := decide_eq_true (by omega)
      have wk : IntKind.i64.wrap ((k : Int) + 1) = (k : Int) + 1 := by rw [IntKind.wrap_i64]; omega
      obtain ⟨bp, fp, rfl, q0, q1, q2⟩ := pu_at (HM.out.mono B0.out).1 (k := k) (by rw [HN.out]; exact hlt)
      have HFk := Lib.hid (HF.out k hlt)
      obtain ⟨x, hx⟩ : ∃ y, pl.getD k pu0 = y := ⟨_, rfl⟩
      rw [hx] at q0 q1 q2 HFk
      have HX := Lib.hid hx
      clear hx
      obtain ⟨x1, x2, x3⟩ := x
      simp only at q0 q1 q2
      simp only at HFk
      have k0 : (0 : Int) ≤ (k : Int) := by omega
      have kN : (k : Int) < (N : Int) := by omega
      by_cases hs : 200 < x2.size
      · have t1 : decide ((200 : Int) < (x2.size : Int)) = true := decide_eq_true (by omega)
        have hf := HFk.out hs
        subst hf
        clear hs
        go_wp2
        go_ret
        exact ⟨rfl, B0.out⟩
      · have t1 : decide ((200 : Int) < (x2.size : Int)) = false := decide_eq_false (by omega)
        have HQ := Lib.hid hs
        clear hs
        go_wp2
        go_roundw
        case rel => exact ⟨k + 1, by omega, by go_num, Lib.hid (fun j hj => by
          rcases Nat.lt_or_ge j k with h | h
          · exact HZ.out j h
          · obtain rfl : j = k := by omega
            rw [HX.out]
            have := HQ.out
            show x2.size ≤ 200
            omega), K1, B0⟩
        case measure => simp [intOf]; omega
    · have hkN : N = k := by omega
      subst hkN
      clear hlt hk
      have t0 : decide ((N : Int) < (N : Int)) = false := decide_eq_false (by omega)
      have he := HT.out HZ.out
      clear HZ
      by_cases h1 : (N : Int) ≤ 10
      · have t1 : decide ((N : Int) ≤ 10) = true := decide_eq_true h1
        by_cases h2 : (M : Int) ≤ 10
        · have t2 : decide ((M : Int) ≤ 10) = true := decide_eq_true h2
          rw [decide_eq_true ⟨h1, h2⟩] at he
          subst he
          clear h1 h2
          go_wp2
          go_ret
          exact ⟨rfl, B0.out⟩
        · have t2 : decide ((M : Int) ≤ 10) = false := decide_eq_false h2
          rw [decide_eq_false (fun q => h2 q.2)] at he
          subst he
          clear h1 h2
          go_wp2
          go_ret
          exact ⟨rfl, B0.out⟩
      · have t1 : decide ((N : Int) ≤ 10) = false := decide_eq_false h1
        rw [decide_eq_false (fun q => h1 q.1)] at he
        subst he
        clear h1
        go_wp2
        go_ret
        exact ⟨rfl, B0.out⟩
end Go.Proofs.YtcdcnklfcmoiiaaDoor
