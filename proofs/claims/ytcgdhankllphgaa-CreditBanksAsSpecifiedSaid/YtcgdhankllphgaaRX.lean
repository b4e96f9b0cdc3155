/- Contracts: the reference's small functions. -/
import Derived.Test.YtcgdhankllphgaaVR
import Derived.Test.YtcgdhankllphgaaRR
import Derived.Test.YtcgdhankllphgaaPE
namespace Go.Proofs.Ytcgdhankllphgaa
set_option linter.unusedVariables false
set_option linter.unusedSimpArgs false
open Go.RowKit Go.Sort
theorem instref_any (t : Int) (w : World) : Calls Try.prog 73 #[.int .i64 t] w fun e w' => e = .returned (.bool (decide (0 ≤ t ∧ t ≤ 1099511627776))) ∧ w = w' := by
  go_enter Try.func73, Try.ntmps73
  go_wp2
  all_goals
    go_ret
    exact ⟨ret_bool (by simp; try omega), rfl⟩
theorem pvalidref_any (lo hi : Int) (w : World) :
    Calls Try.prog 58 #[per lo hi] w fun e w' => e = .returned (.bool (perB lo hi)) ∧ Below w.heap.size w w' := by
  have C1 := Lib.hid (fun X : World => instref_any lo X)
  have C2 := Lib.hid (fun X : World => instref_any hi X)
  by_cases h1 : 0 ≤ lo ∧ lo ≤ 1099511627776
  · by_cases h2 : 0 ≤ hi ∧ hi ≤ 1099511627776
    · rw [decide_eq_true h1] at C1
      rw [decide_eq_true h2] at C2
      have E : perB lo hi = decide (lo ≤ hi) := by unfold perB; apply decide_eq_decide.mpr; omega
      clear h1 h2
      rw [E]
      clear E
      go_enter Try.func58, Try.ntmps58
      go_wp2_with fail
      refine (C1.out _).mono ?_
      rintro e w1 ⟨rfl, rfl⟩
      go_wp2_with fail
      refine (C2.out _).mono ?_
      rintro e w1 ⟨rfl, rfl⟩
      go_wp2
      go_ret
      exact ⟨rfl, by (repeat' (first | (with_reducible exact Below.refl _ _) | (with_reducible assumption) | (with_reducible refine Below.alloc ?_ ?_ _) | (with_reducible refine Below.drew ?_) | (with_reducible refine below_dn ?_) | (with_reducible refine Below.setCell ?_ ?_ _) | (with_reducible exact Nat.le_refl _) | omega | (simp only [World.size_alloc, World.size_setCell, World.size_drew]; omega) | (simp; omega) | (simp; done)))⟩
    · rw [decide_eq_true h1] at C1
      rw [decide_eq_false h2] at C2
      have E : perB lo hi = false := by unfold perB; apply decide_eq_false; omega
      clear h1 h2
      rw [E]
      clear E
      go_enter Try.func58, Try.ntmps58
      go_wp2_with fail
      refine (C1.out _).mono ?_
      rintro e w1 ⟨rfl, rfl⟩
      go_wp2_with fail
      refine (C2.out _).mono ?_
      rintro e w1 ⟨rfl, rfl⟩
      go_wp2
      go_ret
      exact ⟨rfl, by (repeat' (first | (with_reducible exact Below.refl _ _) | (with_reducible assumption) | (with_reducible refine Below.alloc ?_ ?_ _) | (with_reducible refine Below.drew ?_) | (with_reducible refine below_dn ?_) | (with_reducible refine Below.setCell ?_ ?_ _) | (with_reducible exact Nat.le_refl _) | omega | (simp only [World.size_alloc, World.size_setCell, World.size_drew]; omega) | (simp; omega) | (simp; done)))⟩
  · rw [decide_eq_false h1] at C1
    have E : perB lo hi = false := by unfold perB; apply decide_eq_false; omega
    clear h1
    rw [E]
    clear E
    go_enter Try.func58, Try.ntmps58
    go_wp2_with fail
    refine (C1.out _).mono ?_
    rintro e w1 ⟨rfl, rfl⟩
    go_wp2
    go_ret
    exact ⟨rfl, by (repeat' (first | (with_reducible exact Below.refl _ _) | (with_reducible assumption) | (with_reducible refine Below.alloc ?_ ?_ _) | (with_reducible refine Below.drew ?_) | (with_reducible refine below_dn ?_) | (with_reducible refine Below.setCell ?_ ?_ _) | (with_reducible exact Nat.le_refl _) | omega | (simp only [World.size_alloc, World.size_setCell, World.size_drew]; omega) | (simp; omega) | (simp; done)))⟩
theorem overref_any (wi len lo hi : Int) (w : World) (h1 : winOk wi) (h2 : 1 ≤ len ∧ len ≤ 3600000) (h3 : 0 ≤ lo ∧ lo ≤ 1099511627776) :
    Calls Try.prog 59 #[.int .i64 wi, .int .i64 len, per lo hi] w fun e w' => e = .returned (.bool (decide ((wi + 1) * len ≤ lo))) ∧ Below w.heap.size w w' := by
  obtain ⟨g1, g2⟩ := h1
  obtain ⟨h2, h2'⟩ := h2
  obtain ⟨h3, h3'⟩ := h3
  have E : decide ((wi + 1) * len ≤ lo) = decide (wi + 1 ≤ lo / len) := by
    apply decide_eq_decide.mpr
    exact (Int.le_ediv_iff_mul_le (by omega)).symm
  rw [E]
  clear E
  have q1 : 0 ≤ lo / len := Int.ediv_nonneg h3 (by omega)
  have q2 : lo / len ≤ lo := Int.ediv_le_self _ h3
  have l0 : (len == 0) = false := by simp; omega
  go_enter Try.func59, Try.ntmps59
  go_wp2
  go_ret
  exact ⟨rfl, by (repeat' (first | (with_reducible exact Below.refl _ _) | (with_reducible assumption) | (with_reducible refine Below.alloc ?_ ?_ _) | (with_reducible refine Below.drew ?_) | (with_reducible refine below_dn ?_) | (with_reducible refine Below.setCell ?_ ?_ _) | (with_reducible exact Nat.le_refl _) | omega | (simp only [World.size_alloc, World.size_setCell, World.size_drew]; omega) | (simp; omega) | (simp; done)))⟩
theorem rvalid_yes {cap len : Int} {l : List Rw} (ok : OkB cap len l) (a : Option Addr) (c : Nat) (w : World) (hp : RwA w a l) :
    Calls Try.prog 18 #[.agg #[.int .i64 cap, .int .i64 len, .slice a l.length c]] w fun e w' => e = .returned (.bool true) ∧ Below w.heap.size w w' := by
  refine (validref_any cap len a c l w hp (by have := ok.head.2.2; omega)).mono ?_
  rintro e w' ⟨⟨b, rfl, hb⟩, h⟩
  obtain rfl : b = true := hb.2 ok
  exact ⟨rfl, h⟩
theorem rvalid_no {cap len : Int} {l : List Rw} (no : ¬ OkB cap len l) (hm : l.length ≤ 9223372036854775807) (a : Option Addr) (c : Nat) (w : World) (hp : RwA w a l) :
    Calls Try.prog 18 #[.agg #[.int .i64 cap, .int .i64 len, .slice a l.length c]] w fun e w' => e = .returned (.bool false) ∧ Below w.heap.size w w' := by
  refine (validref_any cap len a c l w hp hm).mono ?_
  rintro e w' ⟨⟨b, rfl, hb⟩, h⟩
  cases b
  · exact ⟨rfl, h⟩
  · exact absurd (hb.1 rfl) no
set_option maxRecDepth 100000 in
set_option maxHeartbeats 1000000 in
theorem outref_any (cap len : Int) (a : Option Addr) (c : Nat) (l : List Rw) (wi : Int) (w : World) (hp : RwA w a l) (ok : OkB cap len l) :
    Calls Try.prog 56 #[.agg #[.int .i64 cap, .int .i64 len, .slice a l.length c], .int .i64 wi] w fun e w' => e = .returned (.int .i64 (outL l wi)) ∧ Below w.heap.size w w' := by
  have HP := Lib.hid hp
  have HO := Lib.hid (show outL l wi = outK l wi l.length from rfl)
  have HK := Lib.hid (fun (k : Nat) => show outK l wi (k + 1) = if (l.getD k r0).1 = wi then outK l wi k + ((l.getD k r0).2.2.1 - (l.getD k r0).2.2.2) else outK l wi k from rfl)
  have BD := Lib.hid (outK_bd ok wi)
  have RO := Lib.hid (fun (k : Nat) (h : k < l.length) => (ok.rows k h).1)
  have hm := ok.head.2.2
  obtain ⟨N, hN⟩ : ∃ N, l.length = N := ⟨_, rfl⟩
  have HE := Lib.hid hN
  rw [hN] at HO BD RO hm ⊢
  obtain ⟨R, hR⟩ : ∃ R, outL l wi = R := ⟨_, rfl⟩
  rw [hR] at HO ⊢
  clear hp hN ok hR
  go_enter Try.func56, Try.ntmps56
  have K := Lib.hid (show Blk (w.alloc (.cells #[.int .i64 cap, .int .i64 len, .slice a N c] 24)) w.heap.size 24 #[.int .i64 cap, .int .i64 len, .slice a N c] from Blk.new' w _ _ _ rfl rfl)
  have B := Lib.hid (show Below w.heap.size w (w.alloc (.cells #[.int .i64 cap, .int .i64 len, .slice a N c] 24)) by (repeat' (first | (with_reducible exact Below.refl _ _) | (with_reducible assumption) | (with_reducible refine Below.alloc ?_ ?_ _) | (with_reducible refine Below.drew ?_) | (with_reducible refine below_dn ?_) | (with_reducible refine Below.setCell ?_ ?_ _) | (with_reducible exact Nat.le_refl _) | omega | (simp only [World.size_alloc, World.size_setCell, World.size_drew]; omega) | (simp; omega) | (simp; done))))
  obtain ⟨d0, d1, d2⟩ := three K.out
  go_wp2
  go_loopw [6, 5] (fun u13 u5 wr => ∃ (k : Nat) (s : Int), k ≤ N ∧ u13 = .int .i64 k ∧ u5 = .int .i64 s ∧ Hid (outK l wi k = s) ∧ Hid (Blk wr w.heap.size 24 #[.int .i64 cap, .int .i64 len, .slice a N c]) ∧ Hid (Below w.heap.size w wr)) (fun u13 _ _ => N - (intOf u13).toNat)
  case atStart => exact ⟨0, 0, by omega, rfl, rfl, Lib.hid rfl, K, B⟩
  case round =>
    clear K B d0 d1 d2
    obtain ⟨k, s, hk, rfl, rfl, HS, K, B⟩ := hrel
    obtain ⟨d0, d1, d2⟩ := three K.out
    by_cases hlt : k < N
    · obtain ⟨b, off, rfl, q0, q1, q2, q3⟩ := RwA.at_ (HP.out.mono B.out) (k := k) (by rw [HE.out]; exact hlt)
      have hs := HK.out k
      have ro := RO.out k hlt
      have bd := BD.out k (by omega)
      rw [HS.out] at hs bd
      obtain ⟨x, hx⟩ : ∃ y, l.getD k r0 = y := ⟨_, rfl⟩
      rw [hx] at q0 q1 q2 q3 hs ro
      obtain ⟨x1, x2, x3, x4⟩ := x
      unfold rowOk at ro
      simp only at q0 q1 q2 q3 hs ro
      have RB := Lib.hid ro.2.2
      have r3 : 0 ≤ x3 ∧ x3 ≤ 1099511627776 := ro.2.2.1
      have r4 : 0 ≤ x4 ∧ x4 ≤ x3 := ro.2.2.2
      have hs64 : 0 ≤ s ∧ s ≤ 10995116277760000 := by omega
      have HS2 := Lib.hid hs
      have k0 : (0 : Int) ≤ (k : Int) := by omega
      have kn : (k : Int) < (N : Int) := by omega
      clear hx ro hs bd
      by_cases hw : x1 = wi
      · have t1 : (x1 == wi) = true := by simp [hw]
        have t2 : decide (x1 = wi) = true := decide_eq_true hw
        have h2 := HS2.out
        rw [if_pos hw] at h2
        have wr1 : IntKind.i64.wrap (s + x3) = s + x3 := by rw [IntKind.wrap_i64]; omega
        have wr2 : IntKind.i64.wrap (s + x3 - x4) = s + x3 - x4 := by rw [IntKind.wrap_i64]; omega
        obtain ⟨dd, hdd⟩ : ∃ y, s + x3 = y := ⟨_, rfl⟩
        rw [hdd] at wr1 wr2
        obtain ⟨t, ht⟩ : ∃ y, dd - x4 = y := ⟨_, rfl⟩
        rw [ht] at wr2
        rw [show s + (x3 - x4) = t by omega] at h2
        have H2 := Lib.hid h2
        clear hw h2
        go_wp2
        go_quiet (fail)
        go_wp2
        go_roundw
        case rel => exact ⟨k + 1, t, by omega, by go_num, rfl, H2, Lib.hid (K.out.drewN _), Lib.hid (below_dn B.out)⟩
        case measure => simp [intOf]; omega
      · have t1 : (x1 == wi) = false := by simp [hw]
        have t2 : decide (x1 = wi) = false := decide_eq_false hw
        have h2 := HS2.out
        rw [if_neg hw] at h2
        have H2 := Lib.hid h2
        clear hw h2
        go_wp2
        go_roundw
        case rel => exact ⟨k + 1, s, by omega, by go_num, rfl, H2, K, B⟩
        case measure => simp [intOf]; omega
    · have hkN : k = N := by omega
      have H := Lib.hid (show s = R by rw [← HS.out, HO.out, hkN])
      clear hkN
      go_wp2
      go_ret
      exact ⟨ret_int H.out, B.out⟩
end Go.Proofs.Ytcgdhankllphgaa
