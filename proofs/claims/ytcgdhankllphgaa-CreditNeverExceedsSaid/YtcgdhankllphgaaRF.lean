import Derived.Test.YtcgdhankllphgaaRY1
import Derived.Test.YtcgdhankllphgaaRV
import Derived.BigQuiet
namespace Go.Proofs.Ytcgdhankllphgaa
set_option linter.unusedVariables false
set_option linter.unusedSimpArgs false
set_option linter.unusedSectionVars false
open Go.RowKit
theorem three {X : World} {g : Nat} {t : TypeId} {v0 v1 v2 : Value} (h : Blk X g t #[v0, v1, v2]) : X.cell? ⟨g, 0, none⟩ = some v0 ∧ X.cell? ⟨g, 1, none⟩ = some v1 ∧ X.cell? ⟨g, 2, none⟩ = some v2 := ⟨h.cell 0, h.cell 1, h.cell 2⟩
def Found (c : Rw → Int) (l : List Rw) (e : Ending) : Prop := ∃ (i : Nat) (f : Bool), e = .returned (.tuple #[.int .i64 i, .bool f]) ∧ i ≤ l.length ∧ (f = true → i < l.length) ∧ (Mono c l → i = posC c l ∧ f = hasC c l)
theorem Found.tell {c : Rw → Int} {l : List Rw} {e : Ending} (h : Found c l e) : ∃ (i : Nat) (f : Bool), e = .returned (.tuple #[.int .i64 i, .bool f]) ∧ Found c l (.returned (.tuple #[.int .i64 i, .bool f])) := by
  obtain ⟨i, f, rfl, h⟩ := h
  exact ⟨i, f, rfl, i, f, rfl, h⟩
theorem Found.val {c : Rw → Int} {l : List Rw} {i : Nat} {f : Bool} (h : Found c l (.returned (.tuple #[.int .i64 i, .bool f]))) : i ≤ l.length ∧ (f = true → i < l.length) ∧ (Mono c l → i = posC c l ∧ f = hasC c l) := by
  obtain ⟨i', f', e, h1, h2, h3⟩ := h
  simp only [Ending.returned.injEq, Value.tuple.injEq, Array.mk.injEq, List.cons.injEq, Value.int.injEq, Value.bool.injEq, and_true, true_and] at e
  obtain ⟨e1, rfl⟩ := e
  obtain rfl : i = i' := by omega
  exact ⟨h1, h2, h3⟩
set_option maxRecDepth 100000 in
set_option maxHeartbeats 400000 in
theorem find_any (a : Option Addr) (cap : Nat) (l : List Rw) (y : Rw) (w : World) (hp : RwA w a l) (hm : l.length ≤ 1000000) :
    Calls Try.prog 68 #[.slice a l.length cap, .agg (encR y).toArray, .func (.func 60) #[] #[]] w fun e w' => Found (cR y.1 y.2.1) l e ∧ Below w.heap.size w w' := by
  have HP := Lib.hid hp
  have C := Lib.hid (fun (X : World) (h : RwA X a l) => show Calls Try.prog _ _ X fun e w' => Found (cR y.1 y.2.1) l e ∧ Below X.heap.size X w' from Ro.search_any a cap l y X h hm)
  obtain ⟨N, hN⟩ : ∃ N, l.length = N := ⟨_, rfl⟩
  simp only [hN] at C
  rw [hN]
  obtain ⟨y1, y2, y3, y4⟩ := y
  simp only [encR] at C ⊢
  clear hp hN hm
  go_enter Try.func68, Try.ntmps68
  go_wp2_with fail
  refine (C.out _ (HP.out.mono (by (repeat' (first | (with_reducible exact Below.refl _ _) | (with_reducible assumption) | (with_reducible refine Below.alloc ?_ ?_ _) | (with_reducible refine Below.drew ?_) | (with_reducible refine below_dn ?_) | (with_reducible refine Below.setCell ?_ ?_ _) | (with_reducible exact Nat.le_refl _) | omega | (simp only [World.size_alloc, World.size_setCell, World.size_drew]; omega) | (simp; omega) | (simp; done)))))).mono ?_
  rintro e w1 ⟨hf, hb⟩
  obtain ⟨i, f, rfl, H0⟩ := hf.tell
  have H := Lib.hid H0
  have B := Lib.hid (bt (show Below w.heap.size w (w.alloc (.cells #[.int .i64 y1, .int .i64 y2, .int .i64 y3, .int .i64 y4] 72)) by (repeat' (first | (with_reducible exact Below.refl _ _) | (with_reducible assumption) | (with_reducible refine Below.alloc ?_ ?_ _) | (with_reducible refine Below.drew ?_) | (with_reducible refine below_dn ?_) | (with_reducible refine Below.setCell ?_ ?_ _) | (with_reducible exact Nat.le_refl _) | omega | (simp only [World.size_alloc, World.size_setCell, World.size_drew]; omega) | (simp; omega) | (simp; done)))) hb)
  clear hb hf H0
  go_wp2
  refine bodyPost_ret (by simp [results, Try.results68, go_sem]; try rfl) rfl ?_
  exact ⟨H.out, B.out⟩
set_option maxRecDepth 100000 in
set_option maxHeartbeats 400000 in
theorem row_any (cap len : Int) (a : Option Addr) (c : Nat) (l : List Rw) (wi ga : Int) (w : World) (hp : RwA w a l) (hm : l.length ≤ 1000000) :
    Calls Try.prog 46 #[.agg #[.int .i64 cap, .int .i64 len, .slice a l.length c], .int .i64 wi, .int .i64 ga] w fun e w' => Found (cR wi ga) l e ∧ Below w.heap.size w w' := by
  have HP := Lib.hid hp
  have C := Lib.hid (fun (X : World) (h : RwA X a l) => find_any a c l (wi, ga, 0, 0) X h hm)
  obtain ⟨N, hN⟩ : ∃ N, l.length = N := ⟨_, rfl⟩
  simp only [hN, encR] at C
  rw [hN]
  clear hp hN hm
  go_enter Try.func46, Try.ntmps46
  go_wp2_with fail
  refine (C.out _ (HP.out.mono (by (repeat' (first | (with_reducible exact Below.refl _ _) | (with_reducible assumption) | (with_reducible refine Below.alloc ?_ ?_ _) | (with_reducible refine Below.drew ?_) | (with_reducible refine below_dn ?_) | (with_reducible refine Below.setCell ?_ ?_ _) | (with_reducible exact Nat.le_refl _) | omega | (simp only [World.size_alloc, World.size_setCell, World.size_drew]; omega) | (simp; omega) | (simp; done)))))).mono ?_
  rintro e w1 ⟨hf, hb⟩
  obtain ⟨i, f, rfl, H0⟩ := hf.tell
  have H := Lib.hid H0
  have B := Lib.hid (bt (show Below w.heap.size w (w.alloc (.cells #[.int .i64 cap, .int .i64 len, .slice a N c] 24)) by (repeat' (first | (with_reducible exact Below.refl _ _) | (with_reducible assumption) | (with_reducible refine Below.alloc ?_ ?_ _) | (with_reducible refine Below.drew ?_) | (with_reducible refine below_dn ?_) | (with_reducible refine Below.setCell ?_ ?_ _) | (with_reducible exact Nat.le_refl _) | omega | (simp only [World.size_alloc, World.size_setCell, World.size_drew]; omega) | (simp; omega) | (simp; done)))) hb)
  clear hb hf H0
  go_wp2
  refine bodyPost_ret (by simp [results, Try.results46, go_sem]; try rfl) rfl ?_
  exact ⟨H.out, B.out⟩
theorem valid_yes {cap len : Int} {l : List Rw} (ok : OkB cap len l) (a : Option Addr) (c : Nat) (w : World) (hp : RwA w a l) :
    Calls Try.prog 17 #[.agg #[.int .i64 cap, .int .i64 len, .slice a l.length c]] w fun e w' => e = .returned (.bool true) ∧ Below w.heap.size w w' := by
  have := ok.head.2.2
  refine (valid_any cap len a c l w hp (by omega)).mono ?_
  rintro e w' ⟨⟨b, rfl, hb⟩, h⟩
  obtain rfl : b = true := hb.2 ok
  exact ⟨rfl, h⟩
theorem valid_no {cap len : Int} {l : List Rw} (no : ¬ OkB cap len l) (hm : l.length ≤ 9223372036854775807) (a : Option Addr) (c : Nat) (w : World) (hp : RwA w a l) :
    Calls Try.prog 17 #[.agg #[.int .i64 cap, .int .i64 len, .slice a l.length c]] w fun e w' => e = .returned (.bool false) ∧ Below w.heap.size w w' := by
  refine (valid_any cap len a c l w hp hm).mono ?_
  rintro e w' ⟨⟨b, rfl, hb⟩, h⟩
  obtain rfl : b = false := by
    cases b
    · rfl
    · exact absurd (hb.1 rfl) no
  exact ⟨rfl, h⟩
set_option maxRecDepth 100000 in
set_option maxHeartbeats 1000000 in
theorem out_any (cap len : Int) (a : Option Addr) (c : Nat) (l : List Rw) (wi : Int) (w : World) (hp : RwA w a l) (ok : OkB cap len l) :
    Calls Try.prog 22 #[.agg #[.int .i64 cap, .int .i64 len, .slice a l.length c], .int .i64 wi] w fun e w' => e = .returned (.int .i64 (outL l wi)) ∧ Below w.heap.size w w' := by
  have HP := Lib.hid hp
  have C := Lib.hid (fun (X : World) (h : RwA X a l) => valid_yes ok a c X h)
  have HO := Lib.hid (show outL l wi = outK l wi l.length from rfl)
  have HK := Lib.hid (fun (k : Nat) => show outK l wi (k + 1) = if (l.getD k r0).1 = wi then outK l wi k + ((l.getD k r0).2.2.1 - (l.getD k r0).2.2.2) else outK l wi k from rfl)
  have BD := Lib.hid (outK_bd ok wi)
  have RO := Lib.hid (fun (k : Nat) (h : k < l.length) => (ok.rows k h).1)
  have hm := ok.head.2.2
  obtain ⟨N, hN⟩ : ∃ N, l.length = N := ⟨_, rfl⟩
  have HE := Lib.hid hN
  simp only [hN] at C
  rw [hN] at HO BD RO hm ⊢
  obtain ⟨R, hR⟩ : ∃ R, outL l wi = R := ⟨_, rfl⟩
  rw [hR] at HO ⊢
  clear hp hN ok hR
  go_enter Try.func22, Try.ntmps22
  go_wp2_with fail
  refine (C.out _ (HP.out.mono (by (repeat' (first | (with_reducible exact Below.refl _ _) | (with_reducible assumption) | (with_reducible refine Below.alloc ?_ ?_ _) | (with_reducible refine Below.drew ?_) | (with_reducible refine below_dn ?_) | (with_reducible refine Below.setCell ?_ ?_ _) | (with_reducible exact Nat.le_refl _) | omega | (simp only [World.size_alloc, World.size_setCell, World.size_drew]; omega) | (simp; omega) | (simp; done)))))).mono ?_
  rintro e w1 ⟨rfl, hb⟩
  have K := Lib.hid (show Blk w1 w.heap.size 24 #[.int .i64 cap, .int .i64 len, .slice a N c] from (Blk.new' w _ _ _ rfl rfl).below hb (by simp))
  have B := Lib.hid (bt (show Below w.heap.size w (w.alloc (.cells #[.int .i64 cap, .int .i64 len, .slice a N c] 24)) by (repeat' (first | (with_reducible exact Below.refl _ _) | (with_reducible assumption) | (with_reducible refine Below.alloc ?_ ?_ _) | (with_reducible refine Below.drew ?_) | (with_reducible refine below_dn ?_) | (with_reducible refine Below.setCell ?_ ?_ _) | (with_reducible exact Nat.le_refl _) | omega | (simp only [World.size_alloc, World.size_setCell, World.size_drew]; omega) | (simp; omega) | (simp; done)))) hb)
  obtain ⟨d0, d1, d2⟩ := three K.out
  clear hb C
  go_wp2
  go_loopw [13, 5, 6] (fun u13 u5 _ wr => ∃ (k : Nat) (s : Int), k ≤ N ∧ u13 = .int .i64 k ∧ u5 = .int .i64 s ∧ Hid (outK l wi k = s) ∧ Hid (Blk wr w.heap.size 24 #[.int .i64 cap, .int .i64 len, .slice a N c]) ∧ Hid (Below w.heap.size w wr)) (fun u13 _ _ _ => N - (intOf u13).toNat)
  case atStart => exact ⟨0, 0, by omega, rfl, rfl, Lib.hid rfl, K, B⟩
  case round =>
    clear K B d0 d1 d2
    obtain ⟨k, s, hk, rfl, rfl, HS, K, B⟩ := hrel
    obtain ⟨d0, d1, d2⟩ := three K.out
    by_cases hlt : k < N
    · obtain ⟨b, off, rfl, q0, q1, q2, q3⟩ := RwA.at_ (HP.out.mono B.out) (k := k) (by rw [HE.out]; exact hlt)
      have hs := HK.out k
      have ro := RO.out k hlt
      have bd := BD.out k (by omega)
      rw [HS.out] at hs bd
      obtain ⟨x, hx⟩ : ∃ y, l.getD k r0 = y := ⟨_, rfl⟩
      rw [hx] at q0 q1 q2 q3 hs ro
      obtain ⟨x1, x2, x3, x4⟩ := x
      unfold rowOk at ro
      simp only at q0 q1 q2 q3 hs ro
      have RB := Lib.hid ro.2.2
      have r3 : 0 ≤ x3 ∧ x3 ≤ 1099511627776 := ro.2.2.1
      have r4 : 0 ≤ x4 ∧ x4 ≤ x3 := ro.2.2.2
      have hs64 : 0 ≤ s ∧ s ≤ 10995116277760000 := by omega
      have HS2 := Lib.hid hs
      have k0 : (0 : Int) ≤ (k : Int) := by omega
      have kn : (k : Int) < (N : Int) := by omega
      clear hx ro hs bd
      by_cases hw : x1 = wi
      · have t1 : (x1 == wi) = true := by simp [hw]
        have t2 : decide (x1 = wi) = true := decide_eq_true hw
        have h2 := HS2.out
        rw [if_pos hw] at h2
        have wr1 : IntKind.i64.wrap (x3 - x4) = x3 - x4 := by rw [IntKind.wrap_i64]; omega
        have wr2 : IntKind.i64.wrap (s + (x3 - x4)) = s + (x3 - x4) := by rw [IntKind.wrap_i64]; omega
        obtain ⟨dd, hdd⟩ : ∃ y, x3 - x4 = y := ⟨_, rfl⟩
        rw [hdd] at wr1 wr2 h2
        obtain ⟨t, ht⟩ : ∃ y, s + dd = y := ⟨_, rfl⟩
        rw [ht] at wr2 h2
        have H2 := Lib.hid h2
        have dd1 : 0 ≤ dd ∧ dd ≤ 1099511627776 := by omega
        clear hw h2
        go_wp2
        go_quiet (fail)
        go_wp2
        go_roundw
        case rel => exact ⟨k + 1, t, by omega, by go_num, rfl, H2, Lib.hid (K.out.drewN _), Lib.hid (below_dn B.out)⟩
        case measure => simp [intOf]; omega
      · have t1 : (x1 == wi) = false := by simp [hw]
        have t2 : decide (x1 = wi) = false := decide_eq_false hw
        have h2 := HS2.out
        rw [if_neg hw] at h2
        have H2 := Lib.hid h2
        clear hw h2
        go_wp2
        go_roundw
        case rel => exact ⟨k + 1, s, by omega, by go_num, rfl, H2, K, B⟩
        case measure => simp [intOf]; omega
    · have hkN : k = N := by omega
      have H := Lib.hid (show s = R by rw [← HS.out, HO.out, hkN])
      clear hkN
      go_wp2
      go_ret
      exact ⟨ret_int H.out, B.out⟩
set_option maxRecDepth 100000 in
set_option maxHeartbeats 1000000 in
theorem dealt_any (cap len : Int) (a : Option Addr) (c : Nat) (l : List Rw) (wi ga : Int) (w : World) (hp : RwA w a l) (ok : OkB cap len l) :
    Calls Try.prog 20 #[.agg #[.int .i64 cap, .int .i64 len, .slice a l.length c], .int .i64 wi, .int .i64 ga] w fun e w' => e = .returned (.int .i64 (dealtL l wi ga)) ∧ Below w.heap.size w w' := by
  have HP := Lib.hid hp
  have hm := ok.head.2.2
  have C := Lib.hid (fun (X : World) (h : RwA X a l) => valid_yes ok a c X h)
  have R := Lib.hid (fun (X : World) (h : RwA X a l) => row_any cap len a c l wi ga X h (by omega))
  have FV := Lib.hid (fun (i : Nat) (f : Bool) (h : Found (cR wi ga) l (.returned (.tuple #[.int .i64 i, .bool f]))) => (h.val.2.2 (ok.ord.mono wi ga) : i = posC (cR wi ga) l ∧ f = hasC (cR wi ga) l))
  have FL := Lib.hid (fun (i : Nat) (f : Bool) (h : Found (cR wi ga) l (.returned (.tuple #[.int .i64 i, .bool f]))) => h.val.2.1)
  have HD := Lib.hid (show dealtL l wi ga = if hasC (cR wi ga) l = true then (l.getD (posC (cR wi ga) l) r0).2.2.1 else 0 from rfl)
  obtain ⟨N, hN⟩ : ∃ N, l.length = N := ⟨_, rfl⟩
  have HE := Lib.hid hN
  simp only [hN] at C R FL
  rw [hN] at hm ⊢
  obtain ⟨D, hD⟩ : ∃ D, dealtL l wi ga = D := ⟨_, rfl⟩
  rw [hD] at HD ⊢
  clear hp hN ok hD
  go_enter Try.func20, Try.ntmps20
  go_wp2_with fail
  refine (R.out _ (HP.out.mono (by (repeat' (first | (with_reducible exact Below.refl _ _) | (with_reducible assumption) | (with_reducible refine Below.alloc ?_ ?_ _) | (with_reducible refine Below.drew ?_) | (with_reducible refine below_dn ?_) | (with_reducible refine Below.setCell ?_ ?_ _) | (with_reducible exact Nat.le_refl _) | omega | (simp only [World.size_alloc, World.size_setCell, World.size_drew]; omega) | (simp; omega) | (simp; done)))))).mono ?_
  rintro e w1 ⟨hf, hb⟩
  obtain ⟨i, f, rfl, H0⟩ := hf.tell
  have fv := FV.out i f H0
  have fl := FL.out i f H0
  have K := Lib.hid (show Blk w1 w.heap.size 24 #[.int .i64 cap, .int .i64 len, .slice a N c] from (Blk.new' w _ _ _ rfl rfl).below hb (by simp))
  have B := Lib.hid (bt (show Below w.heap.size w (w.alloc (.cells #[.int .i64 cap, .int .i64 len, .slice a N c] 24)) by (repeat' (first | (with_reducible exact Below.refl _ _) | (with_reducible assumption) | (with_reducible refine Below.alloc ?_ ?_ _) | (with_reducible refine Below.drew ?_) | (with_reducible refine below_dn ?_) | (with_reducible refine Below.setCell ?_ ?_ _) | (with_reducible exact Nat.le_refl _) | omega | (simp only [World.size_alloc, World.size_setCell, World.size_drew]; omega) | (simp; omega) | (simp; done)))) hb)
  have V := Lib.hid fv
  obtain ⟨d0, d1, d2⟩ := three K.out
  clear hb hf H0 R fv
  go_wp2_with fail
  refine (C.out _ (HP.out.mono B.out)).mono ?_
  rintro e w2 ⟨rfl, hb⟩
  replace K := Lib.hid (K.out.below hb K.out.lt)
  replace B := Lib.hid (bt B.out hb)
  clear hb C d0 d1 d2
  obtain ⟨d0, d1, d2⟩ := three K.out
  cases f
  · have DZ := Lib.hid (show D = 0 by rw [HD.out, ← V.out.2]; rfl)
    clear fl
    go_wp2
    go_ret
    exact ⟨ret_int DZ.out.symm, B.out⟩
  · have hi := fl rfl
    obtain ⟨b, off, rfl, q0, q1, q2, q3⟩ := RwA.at_ (HP.out.mono B.out) (k := i) (by rw [HE.out]; exact hi)
    have DZ := Lib.hid (show D = (l.getD i r0).2.2.1 by rw [HD.out, ← V.out.2, ← V.out.1]; rfl)
    obtain ⟨x, hx⟩ : ∃ y, (l.getD i r0).2.2.1 = y := ⟨_, rfl⟩
    rw [hx] at q2 DZ
    have i0 : (0 : Int) ≤ (i : Int) := by omega
    have iN : (i : Int) < (N : Int) := by omega
    clear fl hx q0 q1 q3
    go_wp2
    go_ret
    exact ⟨ret_int DZ.out.symm, B.out⟩
end Go.Proofs.Ytcgdhankllphgaa
