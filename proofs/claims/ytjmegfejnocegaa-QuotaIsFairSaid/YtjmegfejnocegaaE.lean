/- Contracts: the reference's Fair. -/
import Derived.Test.YtjmegfejnocegaaD
namespace Go.Proofs.Ytjmegfejnocegaa
set_option linter.unusedVariables false
set_option linter.unusedSimpArgs false
open Go.RowKit
set_option maxRecDepth 100000 in
set_option maxHeartbeats 1000000 in
theorem fairref_any (c : Int) (a : Option Addr) (cap : Nat) (l : List Sh) (w : World) (hp : ShA w a l) (hok : OkS l) (hm : l.length ≤ 1000) (hc : 0 ≤ c) (hcM : c ≤ 1099511627776) :
    Calls Try.prog 17 #[.int .i64 c, .slice a l.length cap] w fun e w' => ∃ n b cp, e = .returned (.slice b l.length cp) ∧ IsLev c l n ∧ IntsA w' b (fairC c n l) ∧ Below w.heap.size w w' := by
  have CL := Lib.hid (fun W (hb : Below w.heap.size w W) => levelref_any c a cap l W (hp.mono hb) hok hm hc)
  have CA := Lib.hid (fun n W (h0 : 0 ≤ n) (h1 : n ≤ 1099511627776) (hb : Below w.heap.size w W) => allref_any n a cap l W (hp.mono hb) hok hm h0 (by omega))
  have HP := Lib.hid hp; have HK := Lib.hid hok
  have BA := Lib.hid (fun n (h0 : 0 ≤ n) => allL_bd n l hok h0)
  obtain ⟨N, hN⟩ : ∃ N, l.length = N := ⟨_, rfl⟩
  have HE := Lib.hid hN
  rw [hN] at CL CA hm BA ⊢
  clear hp hok hN
  go_enter Try.func17, Try.ntmps17
  go_wp2_with fail
  refine (CL.out _ (Below.refl _ _)).mono ?_
  rintro e w1 ⟨n, rfl, hl, hb⟩
  have LV := Lib.hid hl
  have B1 := Lib.hid hb
  have hn0 := hl.1
  have hnM := hl.2.1
  have hcl := hl.2.2.1
  obtain ⟨BA1, BA2⟩ := BA.out n hl.1
  have CA1 := Lib.hid (fun W hb => CA.out n W hn0 hnM hb)
  obtain ⟨S, hS⟩ : ∃ S, allL n l = S := ⟨_, rfl⟩
  have HS := Lib.hid hS
  rw [hS] at hcl BA1 BA2 CA1
  clear hl hb hS BA CL CA
  go_wp2_with fail
  refine (CA1.out _ B1.out).mono ?_
  rintro e w2 ⟨rfl, hb⟩
  have B2 := Lib.hid (show Below w.heap.size w w2 from bt B1.out hb)
  have zg : w.heap.size ≤ w2.heap.size := B2.out.size
  obtain ⟨G, hG⟩ : ∃ G, w2.heap.size = G := ⟨_, rfl⟩
  have HG := Lib.hid hG
  rw [hG] at zg
  clear hb B1 CA1 hG
  go_wp2
  go_loopw [6, 7, 8, 9, 10] (fun u6 u7 u8 _ _ wr => ∃ (k : Nat) (r : Int), k ≤ N ∧ u8 = .int .i64 k ∧ u6 = .int .i64 r ∧ 0 ≤ r ∧ r ≤ c - S ∧ Hid (leftL n (c - S) (l.take k) = r) ∧ Hid (OwnI wr G u7 (fairL n (c - S) (l.take k))) ∧ G ≤ wr.heap.size ∧ Hid (Below w.heap.size w wr)) (fun _ _ u8 _ _ _ => N - (intOf u8).toNat)
  case atStart => exact ⟨0, c - S, by omega, rfl, rfl, by omega, by omega, Lib.hid rfl, Lib.hid (OwnI.nil _ _), by rw [HG.out]; exact Nat.le_refl _, B2⟩
  case round =>
    clear B2
    obtain ⟨k, r, hk, rfl, rfl, r0, r1, hs, hr, hgr, hbe⟩ := hrel
    by_cases hlt : k < N
    · obtain ⟨b, off, rfl, q0, q1⟩ := ShA.at_ (HP.out.mono hbe.out) (k := k) (by rw [HE.out]; exact hlt)
      have ok := HK.out.at_ (k := k) (by rw [HE.out]; exact hlt)
      have hsn := leftL_snoc n (c - S) (l.take k) (l.getD k (0, 0))
      have hfn := fairL_snoc n (c - S) (l.take k) (l.getD k (0, 0))
      rw [← take_snoc l k (by rw [HE.out]; exact hlt)] at hsn hfn
      rw [hs.out] at hsn hfn
      have bd := atL_bd n _ ok hn0
      have HOK := Lib.hid ok
      obtain ⟨x, hx⟩ : ∃ x, l.getD k (0, 0) = x := ⟨_, rfl⟩
      rw [hx] at q0 q1 ok hfn hsn bd HOK
      have C := Lib.hid (fun W => atref_any n x W HOK.out hn0 (by omega))
      obtain ⟨v, hv⟩ : ∃ v, atL n x = v := ⟨_, rfl⟩
      rw [hv] at hfn hsn bd C
      obtain ⟨x1, x2⟩ := x
      obtain ⟨o1, o2, o3, o4⟩ := ok
      obtain ⟨bd0, bd1⟩ := bd
      simp only at q0 q1 hfn hsn bd1 o1 o2 o3 o4 C
      obtain ⟨m, hmm⟩ : ∃ m, min r (min x1 (x2 - v)) = m := ⟨_, rfl⟩
      have hmb : 0 ≤ m ∧ m ≤ r ∧ m ≤ x1 ∧ m ≤ x2 - v := by omega
      obtain ⟨m0, m1, m2, m3⟩ := hmb
      rw [hmm] at hfn hsn
      obtain ⟨p, hpp⟩ : ∃ p, (if x2 - v < x1 then x2 - v else x1) = p := ⟨_, rfl⟩
      have i2 : (if p < r then p else r) = m := by rw [← hmm, ← hpp]; omega
      have i3 : min p r = m := by rw [← hmm, ← hpp]; omega
      have HFN := Lib.hid hfn; have HSN := Lib.hid hsn
      have LN := Lib.hid (show (fairL n (c - S) (l.take k)).length ≤ 1000000000 by rw [fairL_len, List.length_take]; omega)
      clear hx hv hs hfn hsn HOK
      go_wp2_with fail
      refine (C.out _).mono ?_
      rintro e w3 ⟨rfl, hb⟩
      have B3 := Lib.hid (show Below w.heap.size w w3 from bt hbe.out hb)
      have q0' : w3.cell? ⟨b, off + k * 2, none⟩ = some (.int .i64 x1) := keep q0 hb
      have q1' : w3.cell? ⟨b, off + k * 2 + 1, none⟩ = some (.int .i64 x2) := keep q1 hb
      have OW := Lib.hid (show OwnI w3 G u7 (fairL n (c - S) (l.take k)) from hr.out.below hb)
      have z3 : G ≤ w3.heap.size := Nat.le_trans hgr hb.size
      clear hb hbe q0 q1 hr hgr C
      go_wp2
      go_quiet (fail)
      have OWq := Lib.hid (show OwnI (w3.drewN nq) G u7 (fairL n (c - S) (l.take k)) from OW.out.drewN)
      have ZZ := Lib.hid (show G ≤ (w3.drewN nq).heap.size from z3)
      go_wp2_with (at_builtin; refine wpAppI rfl _ _ rfl G _ _ rfl OWq.out (v + m) _ rfl rfl LN.out ZZ.out ?_)
      intro v4 w4 ho hb4
      have O4 := Lib.hid (show OwnI w4 G v4 (fairL n (c - S) (l.take (k + 1))) by rw [HFN.out]; exact ho)
      have B4 := Lib.hid (show Below w.heap.size w w4 from (below_dn B3.out).trans (hb4.mono (by omega)))
      have z4 : G ≤ w4.heap.size := Nat.le_trans z3 hb4.size
      clear ho hb4 OW OWq B3
      go_wp2
      go_roundw
      case rel => exact ⟨k + 1, r - m, by omega, by go_num, rfl, by omega, by omega, HSN, O4, z4, B4⟩
      case measure => simp [intOf]; omega
    · have hkN : k = N := by omega
      have R7 := Lib.hid (show OwnI wr G u7 (fairC c n l) by
        have := hr.out
        rw [hkN, ← HE.out, List.take_length, ← HS.out] at this
        exact this)
      obtain ⟨bb, cp, rfl, hcp, hi⟩ := R7.out.view
      have hln : (fairC c n l).length = N := by unfold fairC; rw [fairL_len, HE.out]
      rw [hln]
      have HI := Lib.hid hi
      clear hr hs hkN hcp hi R7 hln
      go_wp2
      go_ret
      exact ⟨n, bb, cp, rfl, LV.out, HI.out, hbe.out⟩
end Go.Proofs.Ytjmegfejnocegaa
