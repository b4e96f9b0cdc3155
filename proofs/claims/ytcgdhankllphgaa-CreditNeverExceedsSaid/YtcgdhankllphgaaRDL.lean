import Derived.Test.YtcgdhankllphgaaRD
import Derived.Deep.RegionHeld3
import Derived.Lib.QuietBelow
import Derived.BigQuiet
namespace Go.Proofs.Ytcgdhankllphgaa
set_option linter.unusedVariables false
set_option linter.unusedSimpArgs false
set_option linter.unusedSectionVars false
open Go.RowKit Go.Sort
theorem grow_cell3 (w : World) (d : Nat) (os : Array Obj) (b o : Nat) (h : b < w.heap.size) : (grow (redrawn w d) os).cell? ⟨b, o, none⟩ = w.cell? ⟨b, o, none⟩ :=
  (below_regrown w d os).cell (p := ⟨b, o, none⟩) h
theorem below_of_grow3 {W W' : World} {d : Nat} {os : Array Obj} (h : W' = grow (redrawn W d) os) : Below W.heap.size W W' := h ▸ below_regrown W d os
theorem dealt_bd {cap len : Int} {l : List Rw} (ok : OkB cap len l) (wi ga : Int) : 0 ≤ dealtL l wi ga ∧ dealtL l wi ga ≤ 1099511627776 := by
  unfold dealtL
  split
  · rename_i h
    have h1 := (ok.rows _ ((hasC_iff _ _).1 h).1).1
    unfold rowOk at h1
    omega
  · omega
set_option maxRecDepth 100000 in
set_option maxHeartbeats 2000000 in
theorem deal_limit (cap len : Int) (a : Option Addr) (c : Nat) (l : List Rw) (wi ga n : Int) (w : World) (hp : RwA w a l) (ok : OkB cap len l) (p1 : winOk wi) (p2 : gateOk ga) (p3 : 1 ≤ n ∧ n ≤ 1073741824) (h : cap < outL l wi + n ∨ 1099511627776 < dealtL l wi ga + n ∨ (hasC (cR wi ga) l = false ∧ 10000 ≤ l.length)) :
    Calls Try.prog 10 #[.agg #[.int .i64 cap, .int .i64 len, .slice a l.length c], .int .i64 wi, .int .i64 ga, .int .i64 n] w fun e w' => e = .returned (.tuple #[.agg #[.int .i64 0, .int .i64 0, .slice none 0 0], .int .i64 2]) ∧ Below w.heap.size w w' := by
  have HP := Lib.hid hp
  have hm := ok.head.2.2
  have OB := outK_bd ok wi l.length (Nat.le_refl _)
  have DB := dealt_bd ok wi ga
  have C := Lib.hid (fun (X : World) (h : RwA X a l) => valid_yes ok a c X h)
  have C1 := Lib.hid (fun W => win_yes p1 W)
  have C2 := Lib.hid (fun W => gate_yes p2 W)
  have C3 := Lib.hid (fun W => within_yes (n := n) (a := 1) (b := 1073741824) p3 W)
  have OU := Lib.hid (fun (X : World) (h : RwA X a l) => out_any cap len a c l wi X h ok)
  have DE := Lib.hid (fun (X : World) (h : RwA X a l) => dealt_any cap len a c l wi ga X h ok)
  have RW := Lib.hid (fun (X : World) (h : RwA X a l) => row_any cap len a c l wi ga X h (by omega))
  have FV := Lib.hid (fun (i : Nat) (f : Bool) (h : Found (cR wi ga) l (.returned (.tuple #[.int .i64 i, .bool f]))) => (h.val.2.2 (ok.ord.mono wi ga) : i = posC (cR wi ga) l ∧ f = hasC (cR wi ga) l))
  have FL := Lib.hid (fun (i : Nat) (f : Bool) (h : Found (cR wi ga) l (.returned (.tuple #[.int .i64 i, .bool f]))) => And.intro h.val.1 h.val.2.1)
  have OC := ok.head.1
  change 0 ≤ outL l wi ∧ outL l wi ≤ _ at OB
  obtain ⟨N, hN⟩ : ∃ N, l.length = N := ⟨_, rfl⟩
  have HE := Lib.hid hN
  simp only [hN] at C OU DE RW FL
  rw [hN] at hm OB
  obtain ⟨O, hO⟩ : ∃ O, outL l wi = O := ⟨_, rfl⟩
  obtain ⟨D, hD⟩ : ∃ D, dealtL l wi ga = D := ⟨_, rfl⟩
  rw [hO] at OU OB
  rw [hD] at DE DB
  have O2 : 0 ≤ O ∧ O ≤ 10995116277760000 := by omega
  have w1' : IntKind.i64.wrap (O + n) = O + n := by rw [IntKind.wrap_i64]; omega
  have w2' : IntKind.i64.wrap (D + n) = D + n := by rw [IntKind.wrap_i64]; omega
  obtain ⟨P, hP⟩ : ∃ P, O + n = P := ⟨_, rfl⟩
  obtain ⟨Q, hQ⟩ : ∃ P, D + n = P := ⟨_, rfl⟩
  have pb : 0 ≤ P ∧ P ≤ 90000000000000000 := by omega
  have qb : 0 ≤ Q ∧ Q ≤ 9000000000000000 := by omega
  rw [hO, hD, hN, hP, hQ] at h
  rw [hN]
  rw [hP] at w1'
  rw [hQ] at w2'
  clear hp hN ok hO hD p1 p2
  have HH := Lib.hid h
  by_cases l1 : cap < P
  · have t1 : decide (cap < P) = true := decide_eq_true l1
    clear h l1
    go_enter Try.func10, Try.ntmps10
    go_wp2_with fail
    refine (C.out _ (HP.out.mono (by (repeat' (first | (with_reducible exact Below.refl _ _) | (with_reducible assumption) | (with_reducible refine Below.alloc ?_ ?_ _) | (with_reducible refine Below.drew ?_) | (with_reducible refine below_dn ?_) | (with_reducible refine Below.setCell ?_ ?_ _) | (with_reducible exact Nat.le_refl _) | omega | (simp only [World.size_alloc, World.size_setCell, World.size_drew]; omega) | (simp; omega) | (simp; done)))))).mono ?_
    rintro e w1 ⟨rfl, hb⟩
    have K1 := Lib.hid (show Blk w1 w.heap.size 24 #[.int .i64 cap, .int .i64 len, .slice a N c] from ((Blk.new' w _ _ _ rfl rfl).alloc _).below hb (by simp; omega))
    have K2 := Lib.hid (show Blk w1 (w.heap.size + 1) 24 #[.int .i64 0, .int .i64 0, .slice none 0 0] from (Blk.new' _ _ _ _ (World.size_alloc _ _) rfl).below hb (by simp))
    have B := Lib.hid (bt (show Below w.heap.size w ((w.alloc (.cells #[.int .i64 cap, .int .i64 len, .slice a N c] 24)).alloc (.cells #[.int .i64 0, .int .i64 0, .slice none 0 0] 24)) by (repeat' (first | (with_reducible exact Below.refl _ _) | (with_reducible assumption) | (with_reducible refine Below.alloc ?_ ?_ _) | (with_reducible refine Below.drew ?_) | (with_reducible refine below_dn ?_) | (with_reducible refine Below.setCell ?_ ?_ _) | (with_reducible exact Nat.le_refl _) | omega | (simp only [World.size_alloc, World.size_setCell, World.size_drew]; omega) | (simp; omega) | (simp; done)))) hb)
    clear hb
    obtain ⟨d0, d1, d2⟩ := three K1.out
    obtain ⟨h0, h1, h2⟩ := three K2.out
    have fz := fun q => K2.out.frozen q
    go_wp2_with fail
    refine (C1.out _).mono ?_
    rintro e wz ⟨rfl, rfl⟩
    go_wp2_with fail
    refine (C2.out _).mono ?_
    rintro e wz ⟨rfl, rfl⟩
    go_wp2_with fail
    refine (C3.out _).mono ?_
    rintro e wz ⟨rfl, rfl⟩
    clear d0 d1 d2 h0 h1 h2 fz
    obtain ⟨d0, d1, d2⟩ := three K1.out
    go_wp2_with fail
    refine (RW.out _ (HP.out.mono B.out)).mono ?_
    rintro e w2 ⟨hf, hb⟩
    obtain ⟨i, f, rfl, H0⟩ := hf.tell
    have V := Lib.hid (FV.out i f H0)
    have fl := FL.out i f H0
    replace K1 := Lib.hid (K1.out.below hb K1.out.lt); replace K2 := Lib.hid (K2.out.below hb K2.out.lt); replace B := Lib.hid (bt B.out hb)
    clear hb hf H0 d0 d1 d2 C C1 C2 C3 RW FV FL
    clear fl
    obtain ⟨d0, d1, d2⟩ := three K1.out
    have HP2 := Lib.hid (HP.out.mono B.out)
    have QO := Lib.hid (fun (d : Nat) (os : Array Obj) => OU.out (grow (redrawn w2 d) os) (HP2.out.mono (below_regrown _ _ _)))
    have QD := Lib.hid (fun (d : Nat) (os : Array Obj) => DE.out (grow (redrawn w2 d) os) (HP2.out.mono (below_regrown _ _ _)))
    have gc := grow_cell3
    have z1 := K1.out.lt
    go_wp2_with fail
    refine wp_region_quiet_below (by kernel_rfl) (by kernel_rfl) ?_
    repeat (go_big_quiet_step (first | (with_reducible exact Calls.regrown_of (QO.out _ _)) | (with_reducible exact Calls.regrown_of (QD.out _ _))))
    refine wpQuiet_nil ?_
    intro w5 hw'
    obtain ⟨⟨dq, osq⟩, hw''⟩ := hw'
    have hb := below_of_grow3 hw''
    clear hw'' gc QO QD z1 HP2 d0 d1 d2
    replace K1 := Lib.hid (K1.out.below hb K1.out.lt)
    replace K2 := Lib.hid (K2.out.below hb K2.out.lt)
    replace B := Lib.hid (bt B.out hb)
    clear hb
    obtain ⟨d0, d1, d2⟩ := three K1.out
    obtain ⟨h0, h1, h2⟩ := three K2.out
    have fz := fun q => K2.out.frozen q
    go_wp2
    have K3 := Lib.hid (K2.out.set3 (.int .i64 0) (.int .i64 0) (.slice none 0 0))
    have B3 := Lib.hid (below_set3 B.out (Nat.le_succ _) (.int .i64 0) (.int .i64 0) (.slice none 0 0))
    simp only [set3] at K3 B3
    generalize hw2 : ((w5.setCell ⟨w.heap.size + 1, 0, none⟩ (.int .i64 0)).setCell ⟨w.heap.size + 1, 1, none⟩ (.int .i64 0)).setCell ⟨w.heap.size + 1, 2, none⟩ (.slice none 0 0) = w2 at K3 B3 ⊢
    clear hw2 h0 h1 h2 fz d0 d1 d2
    obtain ⟨d0, d1, d2⟩ := three K3.out
    refine bodyPost_ret (by simp [results, Try.results10, go_sem, d0, d1, d2]; try rfl) rfl ?_
    exact ⟨rfl, B3.out⟩
  · have t1 : decide (cap < P) = false := decide_eq_false l1
    by_cases l2 : 1099511627776 < Q
    · have t2 : decide (1099511627776 < Q) = true := decide_eq_true l2
      clear h l1 l2
      go_enter Try.func10, Try.ntmps10
      go_wp2_with fail
      refine (C.out _ (HP.out.mono (by (repeat' (first | (with_reducible exact Below.refl _ _) | (with_reducible assumption) | (with_reducible refine Below.alloc ?_ ?_ _) | (with_reducible refine Below.drew ?_) | (with_reducible refine below_dn ?_) | (with_reducible refine Below.setCell ?_ ?_ _) | (with_reducible exact Nat.le_refl _) | omega | (simp only [World.size_alloc, World.size_setCell, World.size_drew]; omega) | (simp; omega) | (simp; done)))))).mono ?_
      rintro e w1 ⟨rfl, hb⟩
      have K1 := Lib.hid (show Blk w1 w.heap.size 24 #[.int .i64 cap, .int .i64 len, .slice a N c] from ((Blk.new' w _ _ _ rfl rfl).alloc _).below hb (by simp; omega))
      have K2 := Lib.hid (show Blk w1 (w.heap.size + 1) 24 #[.int .i64 0, .int .i64 0, .slice none 0 0] from (Blk.new' _ _ _ _ (World.size_alloc _ _) rfl).below hb (by simp))
      have B := Lib.hid (bt (show Below w.heap.size w ((w.alloc (.cells #[.int .i64 cap, .int .i64 len, .slice a N c] 24)).alloc (.cells #[.int .i64 0, .int .i64 0, .slice none 0 0] 24)) by (repeat' (first | (with_reducible exact Below.refl _ _) | (with_reducible assumption) | (with_reducible refine Below.alloc ?_ ?_ _) | (with_reducible refine Below.drew ?_) | (with_reducible refine below_dn ?_) | (with_reducible refine Below.setCell ?_ ?_ _) | (with_reducible exact Nat.le_refl _) | omega | (simp only [World.size_alloc, World.size_setCell, World.size_drew]; omega) | (simp; omega) | (simp; done)))) hb)
      clear hb
      obtain ⟨d0, d1, d2⟩ := three K1.out
      obtain ⟨h0, h1, h2⟩ := three K2.out
      have fz := fun q => K2.out.frozen q
      go_wp2_with fail
      refine (C1.out _).mono ?_
      rintro e wz ⟨rfl, rfl⟩
      go_wp2_with fail
      refine (C2.out _).mono ?_
      rintro e wz ⟨rfl, rfl⟩
      go_wp2_with fail
      refine (C3.out _).mono ?_
      rintro e wz ⟨rfl, rfl⟩
      clear d0 d1 d2 h0 h1 h2 fz
      obtain ⟨d0, d1, d2⟩ := three K1.out
      go_wp2_with fail
      refine (RW.out _ (HP.out.mono B.out)).mono ?_
      rintro e w2 ⟨hf, hb⟩
      obtain ⟨i, f, rfl, H0⟩ := hf.tell
      have V := Lib.hid (FV.out i f H0)
      have fl := FL.out i f H0
      replace K1 := Lib.hid (K1.out.below hb K1.out.lt); replace K2 := Lib.hid (K2.out.below hb K2.out.lt); replace B := Lib.hid (bt B.out hb)
      clear hb hf H0 d0 d1 d2 C C1 C2 C3 RW FV FL
      clear fl
      obtain ⟨d0, d1, d2⟩ := three K1.out
      have HP2 := Lib.hid (HP.out.mono B.out)
      have QO := Lib.hid (fun (d : Nat) (os : Array Obj) => OU.out (grow (redrawn w2 d) os) (HP2.out.mono (below_regrown _ _ _)))
      have QD := Lib.hid (fun (d : Nat) (os : Array Obj) => DE.out (grow (redrawn w2 d) os) (HP2.out.mono (below_regrown _ _ _)))
      have gc := grow_cell3
      have z1 := K1.out.lt
      go_wp2_with fail
      refine wp_region_quiet_below (by kernel_rfl) (by kernel_rfl) ?_
      repeat (go_big_quiet_step (first | (with_reducible exact Calls.regrown_of (QO.out _ _)) | (with_reducible exact Calls.regrown_of (QD.out _ _))))
      refine wpQuiet_nil ?_
      intro w5 hw'
      obtain ⟨⟨dq, osq⟩, hw''⟩ := hw'
      have hb := below_of_grow3 hw''
      clear hw'' gc QO QD z1 HP2 d0 d1 d2
      replace K1 := Lib.hid (K1.out.below hb K1.out.lt)
      replace K2 := Lib.hid (K2.out.below hb K2.out.lt)
      replace B := Lib.hid (bt B.out hb)
      clear hb
      obtain ⟨d0, d1, d2⟩ := three K1.out
      obtain ⟨h0, h1, h2⟩ := three K2.out
      have fz := fun q => K2.out.frozen q
      go_wp2
      have K3 := Lib.hid (K2.out.set3 (.int .i64 0) (.int .i64 0) (.slice none 0 0))
      have B3 := Lib.hid (below_set3 B.out (Nat.le_succ _) (.int .i64 0) (.int .i64 0) (.slice none 0 0))
      simp only [set3] at K3 B3
      generalize hw2 : ((w5.setCell ⟨w.heap.size + 1, 0, none⟩ (.int .i64 0)).setCell ⟨w.heap.size + 1, 1, none⟩ (.int .i64 0)).setCell ⟨w.heap.size + 1, 2, none⟩ (.slice none 0 0) = w2 at K3 B3 ⊢
      clear hw2 h0 h1 h2 fz d0 d1 d2
      obtain ⟨d0, d1, d2⟩ := three K3.out
      refine bodyPost_ret (by simp [results, Try.results10, go_sem, d0, d1, d2]; try rfl) rfl ?_
      exact ⟨rfl, B3.out⟩
    · have t2 : decide (1099511627776 < Q) = false := decide_eq_false l2
      have l3 : hasC (cR wi ga) l = false ∧ 10000 ≤ N := by rcases h with h | h | h; exact absurd h l1; exact absurd h l2; exact h
      have t3 : decide ((10000 : Int) ≤ (N : Int)) = true := decide_eq_true (by omega)
      have L3 := Lib.hid l3.1
      clear h l1 l2 l3
      go_enter Try.func10, Try.ntmps10
      go_wp2_with fail
      refine (C.out _ (HP.out.mono (by (repeat' (first | (with_reducible exact Below.refl _ _) | (with_reducible assumption) | (with_reducible refine Below.alloc ?_ ?_ _) | (with_reducible refine Below.drew ?_) | (with_reducible refine below_dn ?_) | (with_reducible refine Below.setCell ?_ ?_ _) | (with_reducible exact Nat.le_refl _) | omega | (simp only [World.size_alloc, World.size_setCell, World.size_drew]; omega) | (simp; omega) | (simp; done)))))).mono ?_
      rintro e w1 ⟨rfl, hb⟩
      have K1 := Lib.hid (show Blk w1 w.heap.size 24 #[.int .i64 cap, .int .i64 len, .slice a N c] from ((Blk.new' w _ _ _ rfl rfl).alloc _).below hb (by simp; omega))
      have K2 := Lib.hid (show Blk w1 (w.heap.size + 1) 24 #[.int .i64 0, .int .i64 0, .slice none 0 0] from (Blk.new' _ _ _ _ (World.size_alloc _ _) rfl).below hb (by simp))
      have B := Lib.hid (bt (show Below w.heap.size w ((w.alloc (.cells #[.int .i64 cap, .int .i64 len, .slice a N c] 24)).alloc (.cells #[.int .i64 0, .int .i64 0, .slice none 0 0] 24)) by (repeat' (first | (with_reducible exact Below.refl _ _) | (with_reducible assumption) | (with_reducible refine Below.alloc ?_ ?_ _) | (with_reducible refine Below.drew ?_) | (with_reducible refine below_dn ?_) | (with_reducible refine Below.setCell ?_ ?_ _) | (with_reducible exact Nat.le_refl _) | omega | (simp only [World.size_alloc, World.size_setCell, World.size_drew]; omega) | (simp; omega) | (simp; done)))) hb)
      clear hb
      obtain ⟨d0, d1, d2⟩ := three K1.out
      obtain ⟨h0, h1, h2⟩ := three K2.out
      have fz := fun q => K2.out.frozen q
      go_wp2_with fail
      refine (C1.out _).mono ?_
      rintro e wz ⟨rfl, rfl⟩
      go_wp2_with fail
      refine (C2.out _).mono ?_
      rintro e wz ⟨rfl, rfl⟩
      go_wp2_with fail
      refine (C3.out _).mono ?_
      rintro e wz ⟨rfl, rfl⟩
      clear d0 d1 d2 h0 h1 h2 fz
      obtain ⟨d0, d1, d2⟩ := three K1.out
      go_wp2_with fail
      refine (RW.out _ (HP.out.mono B.out)).mono ?_
      rintro e w2 ⟨hf, hb⟩
      obtain ⟨i, f, rfl, H0⟩ := hf.tell
      have V := Lib.hid (FV.out i f H0)
      have fl := FL.out i f H0
      replace K1 := Lib.hid (K1.out.below hb K1.out.lt); replace K2 := Lib.hid (K2.out.below hb K2.out.lt); replace B := Lib.hid (bt B.out hb)
      clear hb hf H0 d0 d1 d2 C C1 C2 C3 RW FV FL
      obtain rfl : f = false := by rw [V.out.2]; exact L3.out
      clear fl
      obtain ⟨d0, d1, d2⟩ := three K1.out
      have HP2 := Lib.hid (HP.out.mono B.out)
      have QO := Lib.hid (fun (d : Nat) (os : Array Obj) => OU.out (grow (redrawn w2 d) os) (HP2.out.mono (below_regrown _ _ _)))
      have QD := Lib.hid (fun (d : Nat) (os : Array Obj) => DE.out (grow (redrawn w2 d) os) (HP2.out.mono (below_regrown _ _ _)))
      have gc := grow_cell3
      have z1 := K1.out.lt
      go_wp2_with fail
      refine wp_region_quiet_below (by kernel_rfl) (by kernel_rfl) ?_
      repeat (go_big_quiet_step (first | (with_reducible exact Calls.regrown_of (QO.out _ _)) | (with_reducible exact Calls.regrown_of (QD.out _ _))))
      refine wpQuiet_nil ?_
      intro w5 hw'
      obtain ⟨⟨dq, osq⟩, hw''⟩ := hw'
      have hb := below_of_grow3 hw''
      clear hw'' gc QO QD z1 HP2 d0 d1 d2
      replace K1 := Lib.hid (K1.out.below hb K1.out.lt)
      replace K2 := Lib.hid (K2.out.below hb K2.out.lt)
      replace B := Lib.hid (bt B.out hb)
      clear hb
      obtain ⟨d0, d1, d2⟩ := three K1.out
      obtain ⟨h0, h1, h2⟩ := three K2.out
      have fz := fun q => K2.out.frozen q
      go_wp2
      have K3 := Lib.hid (K2.out.set3 (.int .i64 0) (.int .i64 0) (.slice none 0 0))
      have B3 := Lib.hid (below_set3 B.out (Nat.le_succ _) (.int .i64 0) (.int .i64 0) (.slice none 0 0))
      simp only [set3] at K3 B3
      generalize hw2 : ((w5.setCell ⟨w.heap.size + 1, 0, none⟩ (.int .i64 0)).setCell ⟨w.heap.size + 1, 1, none⟩ (.int .i64 0)).setCell ⟨w.heap.size + 1, 2, none⟩ (.slice none 0 0) = w2 at K3 B3 ⊢
      clear hw2 h0 h1 h2 fz d0 d1 d2
      obtain ⟨d0, d1, d2⟩ := three K3.out
      refine bodyPost_ret (by simp [results, Try.results10, go_sem, d0, d1, d2]; try rfl) rfl ?_
      exact ⟨rfl, B3.out⟩
end Go.Proofs.Ytcgdhankllphgaa
