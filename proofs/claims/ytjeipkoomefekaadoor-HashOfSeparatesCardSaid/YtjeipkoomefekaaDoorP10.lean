/- The law HashCrcBursts, walked. -/
import Derived.Test.YtjeipkoomefekaaDoorW
import Derived.Test.YtjeipkoomefekaaDoorM3
namespace Go.Proofs.YtjeipkoomefekaaDoor
set_option linter.unusedVariables false
set_option linter.unusedSimpArgs false
open Go.RowKit
theorem OwnB.empty (w : World) (B g : Nat) (h : w.heap.size = g) (hB : B ≤ g) : OwnB (w.alloc (.cells #[] 5)) B (.slice (some ⟨g, 0, none⟩) 0 0) [] := by
  subst h
  exact ⟨rfl, .inr ⟨w.heap.size, 0, #[], rfl, hB, heap_alloc_new w _, Nat.le_refl _, Nat.zero_le _, rfl, rfl⟩⟩
theorem OwnB.blk {W : World} {B : Nat} {v : Value} {l : List Nat} (h : OwnB W B v l) (hn : l ≠ []) : ∃ g cap c, v = .slice (some ⟨g, 0, none⟩) l.length cap ∧ B ≤ g ∧ l.length ≤ cap ∧ Blk W g 5 (bvs l ++ c) := by
  rcases h.2 with ⟨_, h0⟩ | ⟨g, cap, cur, hv, hb, hg, h1, h2, h3, h4⟩
  · exact absurd (List.eq_nil_of_length_eq_zero h0) hn
  · refine ⟨g, cap, (cur.toList.drop l.length).toArray, hv, hb, h1, ?_⟩
    have e : bvs l ++ (cur.toList.drop l.length).toArray = cur := by
      apply Array.ext'
      rw [Array.toList_append]
      unfold bvs
      rw [Nat.mul_one] at h4
      show l.map bv ++ cur.toList.drop l.length = cur.toList
      rw [← h4, List.take_append_drop]
    rw [e]
    exact hg
theorem app_at (l : List Nat) (c : Array Value) (k : Nat) (h : k < l.length) : (bvs l ++ c)[k]? = some (bv (l.getD k 0)) := by
  rw [Array.getElem?_append_left (by rw [bvs_size]; exact h)]
  exact bvs_at l k h
theorem app_set (l : List Nat) (c : Array Value) (k x : Nat) (h : k < l.length) : (bvs l ++ c).setIfInBounds k (bv x) = bvs (l.set k x) ++ c := by
  rw [Array.setIfInBounds_append_left (by rw [bvs_size]; exact h), bvs_set]
theorem app_bytes {W : World} {g : Nat} {l : List Nat} {c : Array Value} (h : Blk W g 5 (bvs l ++ c)) (hl : ∀ x ∈ l, x < 256) : BytesA W (some ⟨g, 0, none⟩) l := fun k hk =>
  ⟨g, 0, rfl, by rw [Nat.zero_add, h.cell k]; exact app_at l c k hk, getD_lt (by decide) hl k⟩
theorem xor_eq (a b : Nat) : (a = a ^^^ b) ↔ b = 0 := by
  constructor
  · intro h
    have := congrArg (a ^^^ ·) h
    simpa [← Nat.xor_assoc] using this.symm
  · intro h; rw [h, Nat.xor_zero]
set_option maxRecDepth 100000 in
set_option maxHeartbeats 1000000 in
theorem crcBursts (aa : Option Addr) (ca : Nat) (la : List Nat) (A p : Nat) (w : World) (ha : BytesA w aa la) (ma : la.length ≤ 9223372036854775807) (hA : A ≤ 65535) (hp : p < 18446744073709551616) (hla : LaidC w) :
    Calls Tryd.prog 10 #[.slice aa la.length ca, .int .u16 A, .int .u64 p] w fun e w' => e = .returned (.bool true) ∧ Below w.heap.size w w' := by
  have LA := Lib.hid hla
  have HA := Lib.hid ha
  by_cases h1 : la.length = 0 ∨ 400 < la.length
  · obtain ⟨n, hn⟩ : ∃ n, la.length = n := ⟨_, rfl⟩
    rw [hn] at h1 ma ⊢
    clear ha hla hn
    rcases h1 with h1 | h1
    · subst h1
      go_enter Tryd.func10, Tryd.ntmps10
      go_wp2_with fail
      refine (sane _ LA.out).mono ?_
      rintro e w1 ⟨rfl, hb1⟩
      have B1 := Lib.hid hb1
      clear hb1
      go_wp2
      go_ret
      exact ⟨rfl, B1.out⟩
    · have h2 : ((n : Int) == 0) = false := beq_eq_false_iff_ne.2 (by omega)
      go_enter Tryd.func10, Tryd.ntmps10
      go_wp2_with fail
      refine (sane _ LA.out).mono ?_
      rintro e w1 ⟨rfl, hb1⟩
      have B1 := Lib.hid hb1
      clear hb1
      go_wp2
      go_ret
      exact ⟨rfl, B1.out⟩
  have hlt := ha.lt
  obtain ⟨n, hn⟩ : ∃ n, la.length = n := ⟨_, rfl⟩
  have n0 : 0 < n := by omega
  have n4 : n ≤ 400 := by omega
  have hne : la ≠ [] := fun h => by subst h; simp at hn; omega
  have nz : ((n : Int) == 0) = false := beq_eq_false_iff_ne.2 (by omega)
  obtain ⟨M, hM⟩ : ∃ M, 8 * n = M := ⟨_, rfl⟩
  have e8 : (8 : Int) * (n : Int) = (M : Int) := by omega
  have M0 : 0 < M := by omega
  have M4 : M ≤ 3200 := by omega
  obtain ⟨S, hS⟩ : ∃ S, A % M = S := ⟨_, rfl⟩
  have SM : S < M := by rw [← hS]; exact Nat.mod_lt _ M0
  have eS : (A : Int) % (M : Int) = (S : Int) := by rw [← hS]; simp
  have eS2 : (A : Int).tmod (M : Int) = (S : Int) := by rw [Int.tmod_eq_emod_of_nonneg (by omega)]; exact eS
  have Mz : ((M : Int) == 0) = false := beq_eq_false_iff_ne.2 (by omega)
  have C1 := Lib.hid (fun (W : World) (h : BytesA W aa la) (h2 : LaidC W) => crc40_any aa ca la W h ma h2)
  have NE := Lib.hid hne
  have HL := Lib.hid hn
  have HLT := Lib.hid hlt
  have HM := Lib.hid hM
  simp only [hn] at C1
  rw [hn]
  clear ha hla hlt h1 hne hn ma hM hS
  go_enter Tryd.func10, Tryd.ntmps10
  go_wp2_with fail
  refine (sane _ LA.out).mono ?_
  rintro e w1 ⟨rfl, hb1⟩
  have B1 := Lib.hid (show Below w.heap.size w w1 from hb1)
  have S1 := Lib.hid (show w.heap.size ≤ w1.heap.size from hb1.size)
  clear hb1
  have B2 := Lib.hid (B1.out.alloc S1.out (.cells #[] 5))
  have HA2 := HA.out.mono B2.out
  have SR := Lib.hid (src_bytes (cap := ca) HA2)
  rw [HL.out] at SR
  have LN := Lib.hid (show la.length ≤ 1000000000 by rw [HL.out]; omega)
  clear HA2
  go_wp2_with (at_builtin; refine wpAppS rfl _ _ 22 rfl w.heap.size _ _ rfl (OwnB.empty _ _ _ rfl S1.out) _ la rfl (by rw [HL.out]; exact SR.out) (by simp) LN.out B2.out.size ?_)
  intro v2 w2 ho hb2
  have ho : OwnB w2 w.heap.size v2 la := ho
  have B3 := Lib.hid (B2.out.trans hb2)
  obtain ⟨g, cap, c, rfl, hg, hc, k2⟩ := OwnB.blk ho NE.out
  rw [HL.out] at hc ⊢
  have K2 := Lib.hid k2
  have HG := Lib.hid hg
  clear ho hb2 B2 SR k2 hg
  go_wp2
  go_loopw [10, 11, 12] (fun uf ui up wr => ∃ (i : Nat) (l : List Nat) (f : Bool), i ≤ 40 ∧ S + i ≤ M ∧ ui = .int .i64 i ∧ uf = .bool f ∧ Hid (Blk wr g 5 (bvs l ++ c)) ∧ Hid (l.length = n ∧ ∀ x ∈ l, x < 256) ∧ Hid (run 1099511627775 l = run 1099511627775 la ^^^ dblN (M - (S + i)) (dblN 40 (pat p i))) ∧ Hid (f = decide (pat p i ≠ 0)) ∧ Hid (Below w.heap.size w wr)) (fun _ ui _ _ => 40 - (intOf ui).toNat)
  case atStart => exact ⟨0, la, false, by omega, by omega, rfl, rfl, K2, Lib.hid ⟨HL.out, HLT.out⟩, Lib.hid (by rw [show pat p 0 = 0 from rfl, dblN_zero, dblN_zero, Nat.xor_zero]), Lib.hid rfl, B3⟩
  case round =>
    obtain ⟨i, l, f, hi, hSi, rfl, rfl, hK, hL, hrun, hf, hbe⟩ := hrel
    by_cases hlt : i < 40 ∧ S + i < M
    · obtain ⟨h40, hM2⟩ := hlt
      obtain ⟨P, hP⟩ : ∃ P, S + i = P := ⟨_, rfl⟩
      have eP : (S : Int) + (i : Int) = (P : Int) := by omega
      rw [hP] at hM2
      have bs := burst_step p i (M - P - 1) h40
      rw [show M - P - 1 + 1 = M - (S + i) by omega] at bs
      obtain ⟨Q, hQ⟩ : ∃ Q, p / 2 ^ i % 2 = Q := ⟨_, rfl⟩
      have hb1 : bits .and .u64 ((p : Int) / 2 ^ i) 1 = (Q : Int) := by
        have e : (p : Int) / 2 ^ i = ((p / 2 ^ i : Nat) : Int) := by simp
        have le := Nat.div_le_self p (2 ^ i)
        have k0 := u64_and_nat (p / 2 ^ i) 1 (by omega) (by decide)
        rw [nat_mask1, hQ] at k0
        rw [e]
        exact k0
      have hpat : pat p (i + 1) = 2 * pat p i + Q := by rw [pat, hQ]
      have Q1 : Q ≤ 1 := by omega
      rw [hQ] at bs
      have i40 : (i : Int) < 40 := by omega
      have PM : (P : Int) < (M : Int) := by omega
      by_cases hq : Q = 1
      · have t1 : ((Q : Int) == 1) = true := beq_iff_eq.2 (by omega)
        rw [if_pos hq] at bs
        obtain ⟨I, hI⟩ : ∃ I, P / 8 = I := ⟨_, rfl⟩
        obtain ⟨J, hJ⟩ : ∃ I, P % 8 = I := ⟨_, rfl⟩
        have In : I < n := by have := HM.out; omega
        have J8 : J < 8 := by omega
        have eI : (P : Int) / 8 = (I : Int) := by omega
        have eI2 : (P : Int).tdiv 8 = (I : Int) := by rw [Int.tdiv_eq_ediv_of_nonneg (by omega)]; exact eI
        have eJ : (P : Int) % 8 = (J : Int) := by omega
        have eJ2 : (P : Int).tmod 8 = (J : Int) := by rw [Int.tmod_eq_emod_of_nonneg (by omega)]; exact eJ
        have rfl1 := run_flip l I J 1099511627775 (by rw [hL.out.1]; exact In) J8
        rw [show 8 * (l.length - I) - 1 - J = M - P - 1 by rw [hL.out.1]; have := HM.out; omega, hrun.out, Nat.xor_assoc, bs] at rfl1
        have dI := (hK.out.cell I).trans (app_at l c I (by rw [hL.out.1]; exact In))
        have fI := hK.out.frozen I
        obtain ⟨x, hx⟩ : ∃ x, l.getD I 0 = x := ⟨_, rfl⟩
        have x256 : x < 256 := by rw [← hx]; exact getD_lt (by decide) hL.out.2 I
        obtain ⟨T, hT⟩ : ∃ T, 7 - J = T := ⟨_, rfl⟩
        have eT : (7 : Int) - (J : Int) = (T : Int) := by omega
        have T7 : T ≤ 7 := by omega
        rw [hx, hT] at rfl1
        rw [hx] at dI
        unfold bv at dI
        obtain ⟨Z, hZ⟩ : ∃ Z, 2 ^ T = Z := ⟨_, rfl⟩
        have Z8 : Z ≤ 128 := by rw [← hZ]; exact Nat.pow_le_pow_right (n := 2) (by decide) T7
        have eZ : (2 : Int) ^ T = (Z : Int) := by rw [← hZ]; simp
        have kx := u8_xor_nat x Z x256 (by omega)
        rw [hZ] at rfl1
        have y256 : x ^^^ Z < 256 := Nat.xor_lt_two_pow (n := 8) x256 (by omega)
        obtain ⟨y, hy⟩ : ∃ y, x ^^^ Z = y := ⟨_, rfl⟩
        rw [hy] at kx rfl1 y256
        have RUN := Lib.hid rfl1
        have FF := Lib.hid (show true = decide (pat p (i + 1) ≠ 0) by rw [hpat, hq]; simp)
        have LL := Lib.hid (show (l.set I y).length = n ∧ ∀ x ∈ l.set I y, x < 256 from ⟨by rw [List.length_set]; exact hL.out.1, fun z hz => by rcases List.mem_or_eq_of_mem_set hz with h | h; exact hL.out.2 z h; rw [h]; exact y256⟩)
        have SET := Lib.hid (app_set l c I y (by rw [hL.out.1]; exact In))
        have pI : (0 : Int) ≤ (I : Int) := by omega
        have IN : (I : Int) < (n : Int) := by omega
        have wI : IntKind.i64.wrap (I : Int) = (I : Int) := by rw [IntKind.wrap_i64]; omega
        have wJ : IntKind.i64.wrap (J : Int) = (J : Int) := by rw [IntKind.wrap_i64]; omega
        have wT : IntKind.i64.wrap (T : Int) = (T : Int) := by rw [IntKind.wrap_i64]; omega
        have wZ : IntKind.u8.wrap (Z : Int) = (Z : Int) := by rw [IntKind.wrap_u8']; omega
        have PIM : Hid (M - P - 1 = M - (S + (i + 1))) := Lib.hid (by omega)
        clear hP hQ hI hJ hx hT hZ hy hpat bs hrun hq rfl1 x256 y256 In hL hf
        go_wp2
        refine wp_region_still_tail 14 (by kernel_rfl) (by kernel_rfl) ?_
        simp only [List.take_succ_cons, List.take_zero, List.drop_succ_cons, List.drop_zero]
        show wpStill _ _ (World.drew _) _ _ _
        repeat still_step
        refine wpStill_nil ?_
        show wpList _ _ _ _ _ (World.drew _)
        go_wp2
        go_roundw
        case rel =>
          refine ⟨i + 1, l.set I y, true, by omega, by omega, by go_num, rfl, Lib.hid ?_, LL, ?_, FF, Lib.hid ?_⟩
          · have := hK.out.drew.set_ I (bv y)
            rw [SET.out] at this
            exact this
          · rw [← PIM.out]; exact RUN
          · have := hbe.out; have := HG.out; (repeat' (first | (with_reducible exact Below.refl _ _) | (with_reducible assumption) | (with_reducible refine Below.alloc ?_ ?_ _) | (with_reducible refine Below.drew ?_) | (with_reducible refine below_dn ?_) | (with_reducible refine Below.setCell ?_ ?_ _) | (with_reducible exact Nat.le_refl _) | omega | (simp only [World.size_alloc, World.size_setCell, World.size_drew]; omega) | (simp; omega) | (simp; done)))
        case measure => simp [intOf]; omega
      · have t1 : ((Q : Int) == 1) = false := beq_eq_false_iff_ne.2 (by omega)
        rw [if_neg hq, Nat.xor_zero] at bs
        have RUN := Lib.hid (show run 1099511627775 l = run 1099511627775 la ^^^ dblN (M - (S + (i + 1))) (dblN 40 (pat p (i + 1))) by rw [hrun.out, bs]; congr 2; omega)
        have FF := Lib.hid (show f = decide (pat p (i + 1) ≠ 0) by rw [hpat, hf.out, show Q = 0 by omega]; simp; omega)
        clear hP hQ hpat bs hrun hq hf
        go_wp2
        go_roundw
        case rel => exact ⟨i + 1, l, f, by omega, by omega, by go_num, rfl, hK, hL, RUN, FF, hbe⟩
        case measure => simp [intOf]; omega
    · have C2 := Lib.hid (fun (W : World) (h : BytesA W (some ⟨g, 0, none⟩) l) (h2 : LaidC W) => by have := crc40_any (some ⟨g, 0, none⟩) cap l W h (by rw [hL.out.1]; omega) h2; rw [hL.out.1] at this; exact this)
      have hcr : (crc la = crc l) ↔ pat p i = 0 := by
        unfold crc
        rw [← burst_sees p i (M - (S + i)) hi, ← xor_eq (run 1099511627775 la), ← hrun.out]
        constructor
        · intro h
          have := congrArg (· ^^^ 1099511627775) h
          simpa [Nat.xor_assoc] using this
        · intro h; rw [h]
      obtain ⟨U, hU⟩ : ∃ U, crc la = U := ⟨_, rfl⟩
      obtain ⟨V, hV⟩ : ∃ U, crc l = U := ⟨_, rfl⟩
      rw [hU] at C1 hcr; rw [hV] at C2 hcr
      have fin : ((U : Int) == (V : Int)) = !f := by
        rw [hf.out]
        by_cases h0 : pat p i = 0
        · rw [hcr.2 h0]; simp [h0]
        · have : U ≠ V := fun h => h0 (hcr.1 h)
          rw [beq_eq_false_iff_ne.2 (by omega)]; simp [h0]
      have BY := Lib.hid (app_bytes hK.out hL.out.2)
      obtain ⟨P, hP⟩ : ∃ P, S + i = P := ⟨_, rfl⟩
      have eP : (S : Int) + (i : Int) = (P : Int) := by omega
      have hex : ¬ (i < 40) ∨ ((i : Int) < 40 ∧ ¬ ((P : Int) < (M : Int))) := by omega
      clear hcr hU hV hrun hf hlt
      rcases hex with hx | ⟨hx, hx2⟩
      all_goals
        go_wp2_with fail
        refine (C1.out _ (HA.out.mono hbe.out) (LA.out.mono hbe.out)).mono ?_
        rintro e w3 ⟨rfl, hb3⟩
        have B4 := Lib.hid (bt hbe.out hb3)
        have BY2 := Lib.hid (BY.out.mono hb3)
        clear hb3
        go_wp2_with fail
        refine (C2.out _ BY2.out (LA.out.mono B4.out)).mono ?_
        rintro e w4 ⟨rfl, hb4⟩
        have B5 := Lib.hid (bt B4.out hb4)
        clear hb4 hK hL hbe BY BY2 B4
        go_wp2
        go_ret
        exact ⟨rfl, B5.out⟩
end Go.Proofs.YtjeipkoomefekaaDoor
