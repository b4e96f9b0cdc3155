/- Contracts: Fair. -/
import Derived.Test.YtjmegfejnocegaaC
namespace Go.Proofs.Ytjmegfejnocegaa
set_option linter.unusedVariables false
set_option linter.unusedSimpArgs false
open Go.RowKit
theorem atL_room (n : Int) (s : Sh) (h : okS s) (h0 : 0 ≤ n) : 0 ≤ atL n s ∧ atL n s ≤ 1099511627776 := by
  have a := atL_bd n s h h0
  have := h.2.2.2
  omega
set_option maxRecDepth 100000 in
set_option maxHeartbeats 1000000 in
theorem fair_any (c : Int) (a : Option Addr) (cap : Nat) (l : List Sh) (w : World) (hp : ShA w a l) (hok : OkS l) (hm : l.length ≤ 1000) (hc : 0 ≤ c) (hcM : c ≤ 1099511627776) :
    Calls Try.prog 16 #[.int .i64 c, .slice a l.length cap] w fun e w' => ∃ n g, e = .returned (.slice (some ⟨g, 0, none⟩) l.length l.length) ∧ IsLev c l n ∧ w.heap.size ≤ g ∧ RowI w' g (fairC c n l) ∧ Below w.heap.size w w' := by
  have CL := Lib.hid (fun W (hb : Below w.heap.size w W) => level_any c a cap l W (hp.mono hb) hok hm hc)
  have HP := Lib.hid hp; have HK := Lib.hid hok
  have BA := Lib.hid (fun n (h0 : 0 ≤ n) => allL_bd n l hok h0)
  obtain ⟨N, hN⟩ : ∃ N, l.length = N := ⟨_, rfl⟩
  have HE := Lib.hid hN
  rw [hN] at CL hm ⊢
  clear hp hok hN
  have hmk := run_mk N (by omega)
  go_enter Try.func16, Try.ntmps16
  go_wp2_with fail
  refine (CL.out _ (Below.refl _ _)).mono ?_
  rintro e w1 ⟨n, rfl, hl, hb⟩
  have LV := Lib.hid hl
  have B1 := Lib.hid hb
  have hn0 := hl.1
  have hnM := hl.2.1
  have hcl := hl.2.2.1
  have BAn := BA.out n hl.1
  obtain ⟨S, hS⟩ : ∃ S, allL n l = S := ⟨_, rfl⟩
  have HS := Lib.hid hS
  rw [hS] at hcl BAn
  clear hl hb hS BA CL
  go_wp2
  have R0 := Lib.hid (show RowI (w1.alloc (.cells (madeCells #[.int .i64 0] N) 3)) w1.heap.size (ats n l 0) by rw [ats_zero, HE.out]; exact made_row N w1)
  have B2 := Lib.hid (show Below w.heap.size w (w1.alloc (.cells (madeCells #[.int .i64 0] N) 3)) from B1.out.alloc B1.out.size _)
  have z2 : w1.heap.size < (w1.alloc (.cells (madeCells #[.int .i64 0] N) 3)).heap.size := by simp
  generalize w1.alloc (.cells (madeCells #[.int .i64 0] N) 3) = w2 at *
  have zg : w.heap.size ≤ w1.heap.size := B1.out.size
  obtain ⟨g, hg⟩ : ∃ g, w1.heap.size = g := ⟨_, rfl⟩
  rw [hg] at R0 z2 zg ⊢
  clear hg B1 hmk
  go_loopw [7, 8, 9, 22] (fun u7 _ _ u22 wr => ∃ (k : Nat) (s : Int), k ≤ N ∧ u22 = .int .i64 k ∧ u7 = .int .i64 (c - s) ∧ 0 ≤ s ∧ s ≤ 1099511627776 * k ∧ Hid (allL n (l.take k) = s) ∧ Hid (RowI wr g (ats n l k)) ∧ g < wr.heap.size ∧ Hid (Below w.heap.size w wr)) (fun _ _ _ u22 _ => N - (intOf u22).toNat)
  case atStart => exact ⟨0, 0, by omega, rfl, by simp, by omega, by omega, Lib.hid rfl, R0, z2, B2⟩
  case round =>
    clear R0 B2 z2
    obtain ⟨k, s, hk, rfl, rfl, s0, s1, hs, hr, hgr, hbe⟩ := hrel
    by_cases hlt : k < N
    · obtain ⟨b, off, rfl, q0, q1⟩ := ShA.at_ (HP.out.mono hbe.out) (k := k) (by rw [HE.out]; exact hlt)
      have ok := HK.out.at_ (k := k) (by rw [HE.out]; exact hlt)
      have ht := allL_take n l k (by rw [HE.out]; exact hlt)
      have hset := ats_set n l k (by rw [HE.out]; exact hlt)
      have hat := ats_at n l k (by rw [HE.out]; exact hlt)
      have hln := ats_len n l (k + 1) (by rw [HE.out]; exact hlt)
      rw [hs.out] at ht
      obtain ⟨x, hx⟩ : ∃ x, l.getD k (0, 0) = x := ⟨_, rfl⟩
      rw [hx] at q0 q1 ok ht hset hat
      have C := Lib.hid (fun W => at_any n x W ok hn0 (by omega))
      have bd := atL_room n x ok hn0
      obtain ⟨v, hv⟩ : ∃ v, atL n x = v := ⟨_, rfl⟩
      rw [hv] at C bd ht hset hat
      obtain ⟨x1, x2⟩ := x
      simp only at q0 q1 C
      obtain ⟨bd0, bd1⟩ := bd
      have HT := Lib.hid ht
      have HSET := Lib.hid hset; have HAT := Lib.hid hat; have HLN := Lib.hid hln
      clear hx ok ht hv hs hset hat hln
      go_wp2_with fail
      refine (C.out _).mono ?_
      rintro e w3 ⟨rfl, hb⟩
      have B3 := Lib.hid (show Below w.heap.size w w3 from bt (hbe.out.alloc hbe.out.size _) hb)
      have R3 := Lib.hid (show RowI w3 g (ats n l k) from (hr.out.alloc _).below hb (by simp; omega))
      have R4 := Lib.hid (show RowI (w3.setCell ⟨g, k, none⟩ (.int .i64 v)) g (ats n l (k + 1)) by have := R3.out.set_ k v; rw [HSET.out] at this; exact this)
      have z3 : g < w3.heap.size := R3.out.lt
      have cs : ∃ y, w3.cell? ⟨g, k, none⟩ = some (.int .i64 y) := ⟨_, R3.out.cell (by rw [ats_len n l k (by rw [HE.out]; omega), HE.out]; exact hlt)⟩
      have fz : w3.frozen? ⟨g, k, none⟩ = false := R3.out.frozen k
      obtain ⟨y, cs⟩ := cs
      have c4 : (w3.setCell ⟨g, k, none⟩ (.int .i64 v)).cell? ⟨g, k, none⟩ = some (.int .i64 v) := by
        have := R4.out.cell (k := k) (by rw [HLN.out, HE.out]; exact hlt)
        rw [HAT.out] at this; exact this
      clear hb hbe q0 q1 hr R3
      go_wp2
      go_roundw
      case rel => exact ⟨k + 1, s + v, by omega, by go_num, by rw [show c - s - v = c - (s + v) by omega], by omega, by omega, HT, R4, by simp; omega, Lib.hid (B3.out.setCell (by simp; omega) _)⟩
      case measure => simp [intOf]; omega
    · have hkN : k = N := by omega
      have hf' := hs.out
      rw [List.take_of_length_le (by rw [HE.out]; omega), HS.out] at hf'
      have R5 := Lib.hid (show RowI wr g (fairK n (c - S) l 0) by rw [fairK_zero, HE.out, ← hkN]; exact hr.out)
      obtain rfl : S = s := hf'
      clear hr hs hkN
      go_wp2
      go_loopw [7, 10, 11, 12, 42] (fun u7 _ _ _ u42 wr => ∃ (k : Nat) (r : Int), k ≤ N ∧ u42 = .int .i64 k ∧ u7 = .int .i64 r ∧ 0 ≤ r ∧ r ≤ c - S ∧ Hid (leftL n (c - S) (l.take k) = r) ∧ Hid (RowI wr g (fairK n (c - S) l k)) ∧ g < wr.heap.size ∧ Hid (Below w.heap.size w wr)) (fun _ _ _ _ u42 _ => N - (intOf u42).toNat)
      case atStart => exact ⟨0, c - S, by omega, rfl, rfl, by omega, by omega, Lib.hid rfl, R5, hgr, hbe⟩
      case round =>
        clear R5 hgr hbe
        obtain ⟨k, r, hk, rfl, rfl, r0, r1, hs, hr, hgr, hbe⟩ := hrel
        by_cases hlt : k < N
        · obtain ⟨b, off, rfl, q0, q1⟩ := ShA.at_ (HP.out.mono hbe.out) (k := k) (by rw [HE.out]; exact hlt)
          have ok := HK.out.at_ (k := k) (by rw [HE.out]; exact hlt)
          have hset := fairK_set n (c - S) l k (by rw [HE.out]; exact hlt)
          have hat := fairK_at n (c - S) l k (by rw [HE.out]; exact hlt)
          have hln := fairK_len n (c - S) l k (by rw [HE.out]; omega)
          have hsn := leftL_snoc n (c - S) (l.take k) (l.getD k (0, 0))
          rw [← take_snoc l k (by rw [HE.out]; exact hlt)] at hsn
          rw [hs.out] at hset hsn
          have bd := atL_bd n _ ok hn0
          obtain ⟨x, hx⟩ : ∃ x, l.getD k (0, 0) = x := ⟨_, rfl⟩
          rw [hx] at q0 q1 ok hset hat hsn bd
          obtain ⟨v, hv⟩ : ∃ v, atL n x = v := ⟨_, rfl⟩
          rw [hv] at hset hat hsn bd
          obtain ⟨x1, x2⟩ := x
          obtain ⟨o1, o2, o3, o4⟩ := ok
          obtain ⟨bd0, bd1⟩ := bd
          simp only at q0 q1 hset hsn bd1 o1 o2 o3 o4
          obtain ⟨m, hmm⟩ : ∃ m, min r (min x1 (x2 - v)) = m := ⟨_, rfl⟩
          have hmb : 0 ≤ m ∧ m ≤ r ∧ m ≤ x1 ∧ m ≤ x2 - v := by omega
          obtain ⟨m0, m1, m2, m3⟩ := hmb
          rw [hmm] at hset hsn
          have HMM := Lib.hid hmm
          have HSET := Lib.hid hset; have HAT := Lib.hid hat; have HLN := Lib.hid hln; have HSN := Lib.hid hsn
          clear hx hv hs hset hat hln hsn hmm
          have cs : wr.cell? ⟨g, k, none⟩ = some (.int .i64 v) := by
            have := hr.out.cell (k := k) (by rw [HLN.out, HE.out]; exact hlt)
            rw [HAT.out] at this; exact this
          have fz : wr.frozen? ⟨g, k, none⟩ = false := hr.out.frozen k
          obtain ⟨p, hpp⟩ : ∃ p, (if x1 < r then x1 else r) = p := ⟨_, rfl⟩
          have i2 : (if x2 - v < p then x2 - v else p) = m := by rw [← HMM.out, ← hpp]; omega
          have R6 := Lib.hid (show ∀ q, RowI (((wr.alloc (.cells #[.int .i64 x1, .int .i64 x2] 32)).drewN q).setCell ⟨g, k, none⟩ (.int .i64 (v + m))) g (fairK n (c - S) l (k + 1)) from fun q => by have := ((hr.out.alloc (.cells #[.int .i64 x1, .int .i64 x2] 32)).drewN q).set_ k (v + m); rw [HSET.out] at this; exact this)
          go_wp2
          go_quiet (fail)
          go_wp2
          go_roundw
          case rel => exact ⟨k + 1, r - m, by omega, by go_num, rfl, by omega, by omega, HSN, Lib.hid (R6.out _), by simp; omega, Lib.hid ((below_dn (hbe.out.alloc hbe.out.size _)).setCell (by simp; omega) _)⟩
          case measure => simp [intOf]; omega
        · have hkN : k = N := by omega
          have R7 := Lib.hid (show RowI wr g (fairC c n l) by
            have := hr.out
            rw [hkN, ← HE.out, fairK_all, ← HS.out] at this
            exact this)
          clear hr hs hkN
          go_wp2
          go_ret
          exact ⟨n, g, rfl, LV.out, zg, R7.out, hbe.out⟩
end Go.Proofs.Ytjmegfejnocegaa
