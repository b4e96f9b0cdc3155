/- The law WireLengths, walked. -/
import Derived.Test.YtlihndekeaefcaaU
import Derived.Test.YtlihndekeaefcaaR
import Derived.Deep.RegionWith
import Derived.Deep.Cut
import Derived.Deep.RegionHeld3
import Derived.Deep.CutRange
namespace Go.Proofs.Ytlihndekeaefcaa
set_option linter.unusedVariables false
set_option linter.unusedSimpArgs false
open Go.RowKit
theorem BytesA.cut {W : World} {a : Option Addr} {l : List Nat} (h : BytesA W a l) (i : Nat) : BytesA W a (l.take i) := by
  intro k hk
  rw [List.length_take] at hk
  obtain ⟨b, off, e1, e2, e3⟩ := h k (by omega)
  have hk' : k < i := by omega
  exact ⟨b, off, e1, by rw [getD_take hk']; exact e2, by rw [getD_take hk']; exact e3⟩
theorem conv_cut {W : World} {a : Option Addr} {l : List Nat} (h : BytesA W a l) (i c : Nat) (hi : i ≤ l.length) : (convert 28 9 (.slice a i c)).run Try.prog W = .ok (.string (strB (l.take i))) W := by
  have := conv_str (l.take i) a c W (h.cut i)
  rwa [List.length_take, Nat.min_eq_left hi] at this
theorem conv_both {W : World} {a b : Option Addr} {l m : List Nat} {i c d : Nat} {s t : ByteArray} (h : BytesA W a l) (h' : BytesA W b m) (hi : i ≤ l.length) (hi' : i ≤ m.length) (hs : strB (l.take i) = s) (ht : strB (m.take i) = t) :
    (convert 28 9 (.slice a i c)).run Try.prog W = .ok (.string s) W ∧ (convert 28 9 (.slice b i d)).run Try.prog W = .ok (.string t) W :=
  ⟨by rw [← hs]; exact conv_cut h i c hi, by rw [← ht]; exact conv_cut h' i d hi'⟩
theorem strB_inj {l m : List Nat} (hl : ∀ x ∈ l, x < 256) (hm : ∀ x ∈ m, x < 256) (h : strB l = strB m) : l = m := by
  rw [← sb_strB l hl, ← sb_strB m hm, h]
set_option maxRecDepth 100000 in
set_option maxHeartbeats 16000000 in
theorem lengths (m n : Int) (w : World) (m1 : -9223372036854775808 ≤ m) (m2 : m ≤ 9223372036854775807) (n1 : -9223372036854775808 ≤ n) (n2 : n ≤ 9223372036854775807) :
    Calls Try.prog 5 #[.int .i64 m, .int .i64 n] w fun e w' => e = .returned (.bool true) ∧ Below w.heap.size w w' := by
  have c1 := Lib.hid (fun W : World => int_any m W m1 m2)
  have c2 := Lib.hid (fun W : World => int_any n W n1 n2)
  have c3 := Lib.hid (fun W : World => int_any (-1 - m) W (by omega) (by omega))
  have t1 := Lib.hid (enc_lt m); have t2 := Lib.hid (enc_lt n)
  obtain ⟨q1, q2⟩ := enc_len m m1 m2
  obtain ⟨q3, q4⟩ := enc_len n n1 n2
  have hm := enc_mirror m
  have o1 := enc_one m
  have hcase : (max m (-1 - m) < max n (-1 - n) ∧ (enc m).length ≤ (enc n).length) ∨ (max m (-1 - m) = max n (-1 - n) ∧ (enc m).length = (enc n).length) ∨ (max n (-1 - n) < max m (-1 - m) ∧ (enc n).length ≤ (enc m).length) := by
    rcases Int.lt_trichotomy (max m (-1 - m)) (max n (-1 - n)) with h | h | h
    · exact Or.inl ⟨h, enc_half (by omega)⟩
    · exact Or.inr (Or.inl ⟨h, Nat.le_antisymm (enc_half (by omega)) (enc_half (by omega))⟩)
    · exact Or.inr (Or.inr ⟨h, enc_half (by omega)⟩)
  have hpre := fun k hk h => enc_prefix m1 m2 n1 n2 k hk h
  have HSAME := Lib.hid (show m = n → enc m = enc n from fun h => by rw [h])
  have mt := Lib.hid (enc_lt (-1 - m))
  obtain ⟨I, hI⟩ : ∃ I, max m (-1 - m) = I := ⟨_, rfl⟩
  obtain ⟨K, hK⟩ : ∃ K, max n (-1 - n) = K := ⟨_, rfl⟩
  obtain ⟨L0, e0⟩ : ∃ L, enc m = L := ⟨_, rfl⟩
  obtain ⟨L1, e1⟩ : ∃ L, enc n = L := ⟨_, rfl⟩
  obtain ⟨L2, e2⟩ : ∃ L, enc (-1 - m) = L := ⟨_, rfl⟩
  rw [hI, hK] at hcase
  rw [hI] at o1
  rw [e0] at c1 t1 q1 q2 hm o1 hcase hpre HSAME
  rw [e1] at c2 t2 q3 q4 hcase hpre HSAME
  rw [e2] at c3 hm mt
  have h64 : (I < 64 ∧ L0.length = 1) ∨ (64 ≤ I ∧ 2 ≤ L0.length) := by
    by_cases h : I < 64
    · exact Or.inl ⟨h, o1.2 h⟩
    · refine Or.inr ⟨by omega, ?_⟩
      have : ¬ L0.length = 1 := fun e => h (o1.1 e)
      omega
  have h3 : (-9223372036854775808 : Int) ≤ -1 - m := by omega
  have h4 : (-1 - m : Int) ≤ 9223372036854775807 := by omega
  have h5 : (-9223372036854775808 : Int) ≤ -1 - n := by omega
  have h6 : (-1 - n : Int) ≤ 9223372036854775807 := by omega
  have HPRE := Lib.hid hpre
  have HM := Lib.hid hm
  have CASE := Lib.hid hcase
  have H64 := Lib.hid h64
  clear hpre hm hcase h64 o1 e0 e1 e2
  obtain ⟨k, hk, hk0, hk1⟩ : ∃ k : Nat, min (L0.length : Int) (L1.length : Int) = k ∧ k ≤ L0.length ∧ k ≤ L1.length := ⟨min L0.length L1.length, by omega, by omega, by omega⟩
  have hkm : k = min L0.length L1.length := by omega
  have HKM := Lib.hid hkm
  clear hkm
  go_enter Try.func5, Try.ntmps5
  go_wp2_with fail
  refine (c1.out _).mono ?_
  intro e w1 h
  obtain ⟨a0, p0, rfl, hc0, y0, hb1⟩ := gives_view h t1.out
  have Y0 := Lib.hid y0
  have B1 := Lib.hid hb1
  clear h y0 hb1
  go_wp2_with fail
  refine (c2.out _).mono ?_
  intro e w2 h
  obtain ⟨a1, p1, rfl, hc1, y1, hb2⟩ := gives_view h t2.out
  have Y0 := Lib.hid (Y0.out.mono hb2)
  have Y1 := Lib.hid y1
  have B2 := Lib.hid (bt B1.out hb2)
  clear h y1 hb2 B1 c1 c2
  have z0 : ((L0.length : Int) == 0) = false := beq_eq_false_iff_ne.2 (by omega)
  have z1 : ((L1.length : Int) == 0) = false := beq_eq_false_iff_ne.2 (by omega)
  have z2 : ¬ L0 = [] := fun e => by rw [e] at q1; simp at q1
  have z3 : ¬ L1 = [] := fun e => by rw [e] at q3; simp at q3
  have EQ : (strB (L0.take k) = strB (L1.take k)) = (m = n) := by
    refine propext ⟨fun h => HPRE.out k HKM.out (strB_inj (fun x hx => t1.out x (List.mem_of_mem_take hx)) (fun x hx => t2.out x (List.mem_of_mem_take hx)) h), fun h => by rw [HSAME.out h]⟩
  obtain ⟨s0, hs0⟩ : ∃ s, strB (L0.take k) = s := ⟨_, rfl⟩
  obtain ⟨s1, hs1⟩ : ∃ s, strB (L1.take k) = s := ⟨_, rfl⟩
  rw [hs0, hs1] at EQ
  have HS0 := Lib.hid hs0; have HS1 := Lib.hid hs1; have HEQ := Lib.hid EQ
  clear hs0 hs1 EQ HPRE HKM HSAME
  have hml := HM.out
  have hwr : IntKind.i64.wrap (-1 - m) = -1 - m := by rw [IntKind.wrap_i64]; omega
  have HW := Lib.hid hwr; have HML := Lib.hid hml
  clear hwr hml HM
  go_upto_region 3 with (fail)
  go_cut [66] from 22 to 66 (fun u66 wx => u66 = .bool false ∧ wx = w2)
  case first =>
    rcases CASE.out with ⟨x1, x2⟩ | ⟨x1, x2⟩ | ⟨x1, x2⟩
    case' inl => have e04 : ¬ L1.length < L0.length := by omega
    case' inr.inl =>
      have e03 : ¬ L0.length < L1.length := by omega
      have e04 : ¬ L1.length < L0.length := by omega
      have e05 : I ≤ K := by omega
      have e06 : K ≤ I := by omega
    case' inr.inr => have e03 : ¬ L0.length < L1.length := by omega
    all_goals rcases H64.out with ⟨x3, x4⟩ | ⟨x3, x4⟩ <;> clear CASE H64
    all_goals first
      | (have e01 : ((L0.length : Int) == 1) = true := by simp [x4])
      | (have e01 : ((L0.length : Int) == 1) = false := by simp; omega)
    all_goals clear x4
    all_goals (try (have x5 := Lib.hid (show I = K from x1); clear x1))
    all_goals (try (have x6 := Lib.hid (show L0.length = L1.length from x2); clear x2))
    all_goals (go_wp2_with fail; go_meet)
    all_goals exact ⟨by simp [*], rfl⟩
  case rest =>
    obtain ⟨rfl, rfl⟩ := hcut
    clear CASE H64
    go_upto_region 6 with (fail)
    have hml := HML.out
    have hwr := HW.out
    clear HML HW hI hK z0 z1 z2 z3 t1 t2 h3 h4 h5 h6
    go_cut [4] from 67 to 96 (fun u4 wx => u4 = .bool true ∧ Hid (Below w.heap.size w wx))
    case first =>
      by_cases hmn : m = n
      case' pos => have q5 : (m == n) = true := beq_iff_eq.2 hmn; have hs : s0 = s1 := by rw [HEQ.out]; exact hmn
      case' pos => have q6 : (s0.toList == s1.toList) = true := by rw [hs]; simp
      case' neg => have q5 : (m == n) = false := beq_eq_false_iff_ne.2 hmn; have q6 : (s0.toList == s1.toList) = false := beq_eq_false_iff_ne.2 (fun h => hmn (by rw [← HEQ.out]; rw [ByteArray.toList_eq, ByteArray.toList_eq] at h; exact ByteArray.ext (Array.toList_inj.mp h)))
      case' pos => clear hs hmn
      case' neg => clear hmn
      all_goals clear HEQ
      all_goals (have z4 : k ≤ p0 := by omega)
      all_goals (have z5 : k ≤ p1 := by omega)
      all_goals (have z6 : (k : Int) ≤ p0 := by omega)
      all_goals (have z7 : (k : Int) ≤ p1 := by omega)
      all_goals (have z8 : (0 : Int) ≤ k := by omega)
      all_goals go_region_held3 (fun W => (convert 28 9 (.slice a0 k p0)).run Try.prog W = .ok (.string s0) W ∧ (convert 28 9 (.slice a1 k p1)).run Try.prog W = .ok (.string s1) W) (first | exact conv_both Y4.out Y5.out hk0 hk1 HS0.out HS1.out | exact conv_both Y2.out Y3.out hk0 hk1 HS0.out HS1.out | exact conv_both Y0.out Y1.out hk0 hk1 HS0.out HS1.out) (first | (go_at_call 12; refine (sane _).mono ?_; rintro e w3 ⟨rfl, hb⟩; have Y2 := Lib.hid (Y0.out.mono (bt (by (repeat' (first | (with_reducible exact Below.refl _ _) | (with_reducible assumption) | (with_reducible refine Below.alloc ?_ ?_ _) | (with_reducible refine Below.drew ?_) | (with_reducible refine below_dn ?_) | (with_reducible refine Below.setCell ?_ ?_ _) | (with_reducible exact Nat.le_refl _) | omega | (simp only [World.size_alloc, World.size_setCell, World.size_drew]; omega) | (simp; omega) | (simp; done)))) hb)); have Y3 := Lib.hid (Y1.out.mono (bt (by (repeat' (first | (with_reducible exact Below.refl _ _) | (with_reducible assumption) | (with_reducible refine Below.alloc ?_ ?_ _) | (with_reducible refine Below.drew ?_) | (with_reducible refine below_dn ?_) | (with_reducible refine Below.setCell ?_ ?_ _) | (with_reducible exact Nat.le_refl _) | omega | (simp only [World.size_alloc, World.size_setCell, World.size_drew]; omega) | (simp; omega) | (simp; done)))) hb)); have B3 := Lib.hid (bt B2.out (bt (by (repeat' (first | (with_reducible exact Below.refl _ _) | (with_reducible assumption) | (with_reducible refine Below.alloc ?_ ?_ _) | (with_reducible refine Below.drew ?_) | (with_reducible refine below_dn ?_) | (with_reducible refine Below.setCell ?_ ?_ _) | (with_reducible exact Nat.le_refl _) | omega | (simp only [World.size_alloc, World.size_setCell, World.size_drew]; omega) | (simp; omega) | (simp; done)))) hb)); clear hb Y0 Y1 B2) | (go_at_call 14; refine (c3.out _).mono ?_; intro e w4 h; obtain ⟨a2, p2, rfl, hc2, y2, hb⟩ := gives_view h mt.out; clear h y2; have Y4 := Lib.hid (Y2.out.mono (bt (by (repeat' (first | (with_reducible exact Below.refl _ _) | (with_reducible assumption) | (with_reducible refine Below.alloc ?_ ?_ _) | (with_reducible refine Below.drew ?_) | (with_reducible refine below_dn ?_) | (with_reducible refine Below.setCell ?_ ?_ _) | (with_reducible exact Nat.le_refl _) | omega | (simp only [World.size_alloc, World.size_setCell, World.size_drew]; omega) | (simp; omega) | (simp; done)))) hb)); have Y5 := Lib.hid (Y3.out.mono (bt (by (repeat' (first | (with_reducible exact Below.refl _ _) | (with_reducible assumption) | (with_reducible refine Below.alloc ?_ ?_ _) | (with_reducible refine Below.drew ?_) | (with_reducible refine below_dn ?_) | (with_reducible refine Below.setCell ?_ ?_ _) | (with_reducible exact Nat.le_refl _) | omega | (simp only [World.size_alloc, World.size_setCell, World.size_drew]; omega) | (simp; omega) | (simp; done)))) hb)); have B4 := Lib.hid (bt B3.out (bt (by (repeat' (first | (with_reducible exact Below.refl _ _) | (with_reducible assumption) | (with_reducible refine Below.alloc ?_ ?_ _) | (with_reducible refine Below.drew ?_) | (with_reducible refine below_dn ?_) | (with_reducible refine Below.setCell ?_ ?_ _) | (with_reducible exact Nat.le_refl _) | omega | (simp only [World.size_alloc, World.size_setCell, World.size_drew]; omega) | (simp; omega) | (simp; done)))) hb)); clear hb Y2 Y3 B3 hc2))
      all_goals (go_wp2_with fail; go_meet; exact ⟨rfl, B4⟩)
    case rest =>
      obtain ⟨rfl, hB⟩ := hcut
      go_wp2_with fail
      go_ret
      exact ⟨rfl, hB.out⟩
end Go.Proofs.Ytlihndekeaefcaa
