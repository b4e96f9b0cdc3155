import Derived.Test.YtcgdhankllphgaaRDO
namespace Go.Proofs.Ytcgdhankllphgaa
set_option linter.unusedVariables false
set_option linter.unusedSimpArgs false
set_option linter.unusedSectionVars false
open Go.RowKit Go.Sort
set_option maxRecDepth 100000 in
set_option maxHeartbeats 1000000 in
theorem ret_arg (cap len : Int) (a : Option Addr) (c : Nat) (l : List Rw) (wi ga n : Int) (w : World) (hp : RwA w a l) (hm : l.length ≤ 9223372036854775807) (h : ¬ (OkB cap len l ∧ winOk wi ∧ gateOk ga ∧ 0 ≤ n ∧ n ≤ dealtL l wi ga)) :
    Calls Try.prog 11 #[.agg #[.int .i64 cap, .int .i64 len, .slice a l.length c], .int .i64 wi, .int .i64 ga, .int .i64 n] w fun e w' => e = .returned (.tuple #[.agg #[.int .i64 0, .int .i64 0, .slice none 0 0], .int .i64 1]) ∧ Below w.heap.size w w' := by
  have HP := Lib.hid hp
  by_cases ok : OkB cap len l
  · have C := Lib.hid (fun (X : World) (h : RwA X a l) => valid_yes ok a c X h)
    have DE := Lib.hid (fun (X : World) (h : RwA X a l) => dealt_any cap len a c l wi ga X h ok)
    obtain ⟨N, hN⟩ : ∃ N, l.length = N := ⟨_, rfl⟩
    simp only [hN] at C DE
    rw [hN]
    by_cases p1 : winOk wi
    · have C1 := Lib.hid (fun W => win_yes p1 W)
      by_cases p2 : gateOk ga
      · have C2 := Lib.hid (fun W => gate_yes p2 W)
        have C3 := Lib.hid (fun W => within_no (n := n) (a := 0) (b := dealtL l wi ga) (fun q => h ⟨ok, p1, p2, q.1, q.2⟩) W)
        obtain ⟨D, hD⟩ : ∃ D, dealtL l wi ga = D := ⟨_, rfl⟩
        rw [hD] at DE C3
        clear h ok p1 p2 hp hN hD
        go_enter Try.func11, Try.ntmps11
        go_wp2_with fail
        refine (C.out _ (HP.out.mono (by (repeat' (first | (with_reducible exact Below.refl _ _) | (with_reducible assumption) | (with_reducible refine Below.alloc ?_ ?_ _) | (with_reducible refine Below.drew ?_) | (with_reducible refine below_dn ?_) | (with_reducible refine Below.setCell ?_ ?_ _) | (with_reducible exact Nat.le_refl _) | omega | (simp only [World.size_alloc, World.size_setCell, World.size_drew]; omega) | (simp; omega) | (simp; done)))))).mono ?_
        rintro e w1 ⟨rfl, hb⟩
        have K1 := Lib.hid (show Blk w1 w.heap.size 24 #[.int .i64 cap, .int .i64 len, .slice a N c] from ((Blk.new' w _ _ _ rfl rfl).alloc _).below hb (by simp; omega))
        have K2 := Lib.hid (show Blk w1 (w.heap.size + 1) 24 #[.int .i64 0, .int .i64 0, .slice none 0 0] from (Blk.new' _ _ _ _ (World.size_alloc _ _) rfl).below hb (by simp))
        have B := Lib.hid (bt (show Below w.heap.size w ((w.alloc (.cells #[.int .i64 cap, .int .i64 len, .slice a N c] 24)).alloc (.cells #[.int .i64 0, .int .i64 0, .slice none 0 0] 24)) by (repeat' (first | (with_reducible exact Below.refl _ _) | (with_reducible assumption) | (with_reducible refine Below.alloc ?_ ?_ _) | (with_reducible refine Below.drew ?_) | (with_reducible refine below_dn ?_) | (with_reducible refine Below.setCell ?_ ?_ _) | (with_reducible exact Nat.le_refl _) | omega | (simp only [World.size_alloc, World.size_setCell, World.size_drew]; omega) | (simp; omega) | (simp; done)))) hb)
        clear hb
        obtain ⟨d0, d1, d2⟩ := three K1.out
        obtain ⟨h0, h1, h2⟩ := three K2.out
        have fz := fun q => K2.out.frozen q
        go_wp2_with fail
        refine (C1.out _).mono ?_
        rintro e wz ⟨rfl, rfl⟩
        go_wp2_with fail
        refine (C2.out _).mono ?_
        rintro e wz ⟨rfl, rfl⟩
        go_wp2_with fail
        refine (DE.out _ (HP.out.mono B.out)).mono ?_
        rintro e w2 ⟨rfl, hb⟩
        replace K1 := Lib.hid (K1.out.below hb K1.out.lt)
        replace K2 := Lib.hid (K2.out.below hb K2.out.lt)
        replace B := Lib.hid (bt B.out hb)
        clear hb d0 d1 d2 h0 h1 h2 fz
        obtain ⟨d0, d1, d2⟩ := three K1.out
        obtain ⟨h0, h1, h2⟩ := three K2.out
        have fz := fun q => K2.out.frozen q
        go_wp2_with fail
        refine (C3.out _).mono ?_
        rintro e wz ⟨rfl, rfl⟩
        go_wp2
        have K3 := Lib.hid (K2.out.set3 (.int .i64 0) (.int .i64 0) (.slice none 0 0))
        have B3 := Lib.hid (below_set3 B.out (Nat.le_succ _) (.int .i64 0) (.int .i64 0) (.slice none 0 0))
        simp only [set3] at K3 B3
        generalize hw2 : ((w2.setCell ⟨w.heap.size + 1, 0, none⟩ (.int .i64 0)).setCell ⟨w.heap.size + 1, 1, none⟩ (.int .i64 0)).setCell ⟨w.heap.size + 1, 2, none⟩ (.slice none 0 0) = w2 at K3 B3 ⊢
        clear hw2 h0 h1 h2 fz d0 d1 d2
        obtain ⟨d0, d1, d2⟩ := three K3.out
        refine bodyPost_ret (by simp [results, Try.results11, go_sem, d0, d1, d2]; try rfl) rfl ?_
        exact ⟨rfl, B3.out⟩
      · have C2 := Lib.hid (fun W => gate_no p2 W)
        clear h ok p1 p2 hp hN
        go_enter Try.func11, Try.ntmps11
        go_wp2_with fail
        refine (C.out _ (HP.out.mono (by (repeat' (first | (with_reducible exact Below.refl _ _) | (with_reducible assumption) | (with_reducible refine Below.alloc ?_ ?_ _) | (with_reducible refine Below.drew ?_) | (with_reducible refine below_dn ?_) | (with_reducible refine Below.setCell ?_ ?_ _) | (with_reducible exact Nat.le_refl _) | omega | (simp only [World.size_alloc, World.size_setCell, World.size_drew]; omega) | (simp; omega) | (simp; done)))))).mono ?_
        rintro e w1 ⟨rfl, hb⟩
        have K1 := Lib.hid (show Blk w1 w.heap.size 24 #[.int .i64 cap, .int .i64 len, .slice a N c] from ((Blk.new' w _ _ _ rfl rfl).alloc _).below hb (by simp; omega))
        have K2 := Lib.hid (show Blk w1 (w.heap.size + 1) 24 #[.int .i64 0, .int .i64 0, .slice none 0 0] from (Blk.new' _ _ _ _ (World.size_alloc _ _) rfl).below hb (by simp))
        have B := Lib.hid (bt (show Below w.heap.size w ((w.alloc (.cells #[.int .i64 cap, .int .i64 len, .slice a N c] 24)).alloc (.cells #[.int .i64 0, .int .i64 0, .slice none 0 0] 24)) by (repeat' (first | (with_reducible exact Below.refl _ _) | (with_reducible assumption) | (with_reducible refine Below.alloc ?_ ?_ _) | (with_reducible refine Below.drew ?_) | (with_reducible refine below_dn ?_) | (with_reducible refine Below.setCell ?_ ?_ _) | (with_reducible exact Nat.le_refl _) | omega | (simp only [World.size_alloc, World.size_setCell, World.size_drew]; omega) | (simp; omega) | (simp; done)))) hb)
        clear hb
        obtain ⟨d0, d1, d2⟩ := three K1.out
        obtain ⟨h0, h1, h2⟩ := three K2.out
        have fz := fun q => K2.out.frozen q
        go_wp2_with fail
        refine (C1.out _).mono ?_
        rintro e wz ⟨rfl, rfl⟩
        go_wp2_with fail
        refine (C2.out _).mono ?_
        rintro e wz ⟨rfl, rfl⟩
        go_wp2
        have K3 := Lib.hid (K2.out.set3 (.int .i64 0) (.int .i64 0) (.slice none 0 0))
        have B3 := Lib.hid (below_set3 B.out (Nat.le_succ _) (.int .i64 0) (.int .i64 0) (.slice none 0 0))
        simp only [set3] at K3 B3
        generalize hw2 : ((w1.setCell ⟨w.heap.size + 1, 0, none⟩ (.int .i64 0)).setCell ⟨w.heap.size + 1, 1, none⟩ (.int .i64 0)).setCell ⟨w.heap.size + 1, 2, none⟩ (.slice none 0 0) = w2 at K3 B3 ⊢
        clear hw2 h0 h1 h2 fz d0 d1 d2
        obtain ⟨d0, d1, d2⟩ := three K3.out
        refine bodyPost_ret (by simp [results, Try.results11, go_sem, d0, d1, d2]; try rfl) rfl ?_
        exact ⟨rfl, B3.out⟩
    · have C1 := Lib.hid (fun W => win_no p1 W)
      clear h ok p1 hp hN
      go_enter Try.func11, Try.ntmps11
      go_wp2_with fail
      refine (C.out _ (HP.out.mono (by (repeat' (first | (with_reducible exact Below.refl _ _) | (with_reducible assumption) | (with_reducible refine Below.alloc ?_ ?_ _) | (with_reducible refine Below.drew ?_) | (with_reducible refine below_dn ?_) | (with_reducible refine Below.setCell ?_ ?_ _) | (with_reducible exact Nat.le_refl _) | omega | (simp only [World.size_alloc, World.size_setCell, World.size_drew]; omega) | (simp; omega) | (simp; done)))))).mono ?_
      rintro e w1 ⟨rfl, hb⟩
      have K1 := Lib.hid (show Blk w1 w.heap.size 24 #[.int .i64 cap, .int .i64 len, .slice a N c] from ((Blk.new' w _ _ _ rfl rfl).alloc _).below hb (by simp; omega))
      have K2 := Lib.hid (show Blk w1 (w.heap.size + 1) 24 #[.int .i64 0, .int .i64 0, .slice none 0 0] from (Blk.new' _ _ _ _ (World.size_alloc _ _) rfl).below hb (by simp))
      have B := Lib.hid (bt (show Below w.heap.size w ((w.alloc (.cells #[.int .i64 cap, .int .i64 len, .slice a N c] 24)).alloc (.cells #[.int .i64 0, .int .i64 0, .slice none 0 0] 24)) by (repeat' (first | (with_reducible exact Below.refl _ _) | (with_reducible assumption) | (with_reducible refine Below.alloc ?_ ?_ _) | (with_reducible refine Below.drew ?_) | (with_reducible refine below_dn ?_) | (with_reducible refine Below.setCell ?_ ?_ _) | (with_reducible exact Nat.le_refl _) | omega | (simp only [World.size_alloc, World.size_setCell, World.size_drew]; omega) | (simp; omega) | (simp; done)))) hb)
      clear hb
      obtain ⟨d0, d1, d2⟩ := three K1.out
      obtain ⟨h0, h1, h2⟩ := three K2.out
      have fz := fun q => K2.out.frozen q
      go_wp2_with fail
      refine (C1.out _).mono ?_
      rintro e wz ⟨rfl, rfl⟩
      go_wp2
      have K3 := Lib.hid (K2.out.set3 (.int .i64 0) (.int .i64 0) (.slice none 0 0))
      have B3 := Lib.hid (below_set3 B.out (Nat.le_succ _) (.int .i64 0) (.int .i64 0) (.slice none 0 0))
      simp only [set3] at K3 B3
      generalize hw2 : ((w1.setCell ⟨w.heap.size + 1, 0, none⟩ (.int .i64 0)).setCell ⟨w.heap.size + 1, 1, none⟩ (.int .i64 0)).setCell ⟨w.heap.size + 1, 2, none⟩ (.slice none 0 0) = w2 at K3 B3 ⊢
      clear hw2 h0 h1 h2 fz d0 d1 d2
      obtain ⟨d0, d1, d2⟩ := three K3.out
      refine bodyPost_ret (by simp [results, Try.results11, go_sem, d0, d1, d2]; try rfl) rfl ?_
      exact ⟨rfl, B3.out⟩
  · have C := Lib.hid (fun (X : World) (h : RwA X a l) => valid_no ok hm a c X h)
    obtain ⟨N, hN⟩ : ∃ N, l.length = N := ⟨_, rfl⟩
    simp only [hN] at C
    rw [hN]
    clear h ok hp hN
    go_enter Try.func11, Try.ntmps11
    go_wp2_with fail
    refine (C.out _ (HP.out.mono (by (repeat' (first | (with_reducible exact Below.refl _ _) | (with_reducible assumption) | (with_reducible refine Below.alloc ?_ ?_ _) | (with_reducible refine Below.drew ?_) | (with_reducible refine below_dn ?_) | (with_reducible refine Below.setCell ?_ ?_ _) | (with_reducible exact Nat.le_refl _) | omega | (simp only [World.size_alloc, World.size_setCell, World.size_drew]; omega) | (simp; omega) | (simp; done)))))).mono ?_
    rintro e w1 ⟨rfl, hb⟩
    have K1 := Lib.hid (show Blk w1 w.heap.size 24 #[.int .i64 cap, .int .i64 len, .slice a N c] from ((Blk.new' w _ _ _ rfl rfl).alloc _).below hb (by simp; omega))
    have K2 := Lib.hid (show Blk w1 (w.heap.size + 1) 24 #[.int .i64 0, .int .i64 0, .slice none 0 0] from (Blk.new' _ _ _ _ (World.size_alloc _ _) rfl).below hb (by simp))
    have B := Lib.hid (bt (show Below w.heap.size w ((w.alloc (.cells #[.int .i64 cap, .int .i64 len, .slice a N c] 24)).alloc (.cells #[.int .i64 0, .int .i64 0, .slice none 0 0] 24)) by (repeat' (first | (with_reducible exact Below.refl _ _) | (with_reducible assumption) | (with_reducible refine Below.alloc ?_ ?_ _) | (with_reducible refine Below.drew ?_) | (with_reducible refine below_dn ?_) | (with_reducible refine Below.setCell ?_ ?_ _) | (with_reducible exact Nat.le_refl _) | omega | (simp only [World.size_alloc, World.size_setCell, World.size_drew]; omega) | (simp; omega) | (simp; done)))) hb)
    clear hb
    obtain ⟨d0, d1, d2⟩ := three K1.out
    obtain ⟨h0, h1, h2⟩ := three K2.out
    have fz := fun q => K2.out.frozen q
    go_wp2
    have K3 := Lib.hid (K2.out.set3 (.int .i64 0) (.int .i64 0) (.slice none 0 0))
    have B3 := Lib.hid (below_set3 B.out (Nat.le_succ _) (.int .i64 0) (.int .i64 0) (.slice none 0 0))
    simp only [set3] at K3 B3
    generalize hw2 : ((w1.setCell ⟨w.heap.size + 1, 0, none⟩ (.int .i64 0)).setCell ⟨w.heap.size + 1, 1, none⟩ (.int .i64 0)).setCell ⟨w.heap.size + 1, 2, none⟩ (.slice none 0 0) = w2 at K3 B3 ⊢
    clear hw2 h0 h1 h2 fz d0 d1 d2
    obtain ⟨d0, d1, d2⟩ := three K3.out
    refine bodyPost_ret (by simp [results, Try.results11, go_sem, d0, d1, d2]; try rfl) rfl ?_
    exact ⟨rfl, B3.out⟩
set_option maxRecDepth 100000 in
set_option maxHeartbeats 4000000 in
theorem ret_ok (cap len : Int) (a : Option Addr) (c : Nat) (l : List Rw) (wi ga n : Int) (w : World) (hp : RwA w a l) (ok : OkB cap len l) (p1 : winOk wi) (p2 : gateOk ga) (p3 : 0 ≤ n ∧ n ≤ dealtL l wi ga) :
    Calls Try.prog 11 #[.agg #[.int .i64 cap, .int .i64 len, .slice a l.length c], .int .i64 wi, .int .i64 ga, .int .i64 n] w fun e w' => (∃ a' c', e = .returned (.tuple #[.agg #[.int .i64 cap, .int .i64 len, .slice a' (retL l wi ga n).length c'], .int .i64 0]) ∧ RwA w' a' (retL l wi ga n) ∧ ∀ p, a' = some p → w.heap.size ≤ p.block) ∧ Below w.heap.size w w' := by
  have HP := Lib.hid hp
  have hm := ok.head.2.2
  have C := Lib.hid (fun (X : World) (h : RwA X a l) => valid_yes ok a c X h)
  have C1 := Lib.hid (fun W => win_yes p1 W)
  have C2 := Lib.hid (fun W => gate_yes p2 W)
  have C3 := Lib.hid (fun W => within_yes (n := n) (a := 0) (b := dealtL l wi ga) p3 W)
  have DE := Lib.hid (fun (X : World) (h : RwA X a l) => dealt_any cap len a c l wi ga X h ok)
  have RW := Lib.hid (fun (a6 : Option Addr) (c6 : Nat) (X : World) (h : RwA X a6 l) => row_any cap len a6 c6 l wi ga X h (by omega))
  have FV := Lib.hid (fun (i : Nat) (f : Bool) (h : Found (cR wi ga) l (.returned (.tuple #[.int .i64 i, .bool f]))) => (h.val.2.2 (ok.ord.mono wi ga) : i = posC (cR wi ga) l ∧ f = hasC (cR wi ga) l))
  have FL := Lib.hid (fun (i : Nat) (f : Bool) (h : Found (cR wi ga) l (.returned (.tuple #[.int .i64 i, .bool f]))) => And.intro h.val.1 h.val.2.1)
  have CL := Lib.hid (fun (X : World) (h : RwA X a l) => Ro.clone_any a c l X h (by omega))
  have HRL := Lib.hid (show retL l wi ga n = if hasC (cR wi ga) l = true then l.set (posC (cR wi ga) l) ((l.getD (posC (cR wi ga) l) r0).1, (l.getD (posC (cR wi ga) l) r0).2.1, (l.getD (posC (cR wi ga) l) r0).2.2.1, max (l.getD (posC (cR wi ga) l) r0).2.2.2 n) else l from rfl)
  obtain ⟨N, hN⟩ : ∃ N, l.length = N := ⟨_, rfl⟩
  have HE := Lib.hid hN
  simp only [hN] at C DE RW FL CL
  obtain ⟨D, hD⟩ : ∃ D, dealtL l wi ga = D := ⟨_, rfl⟩
  rw [hD] at DE C3
  rw [hN] at hm
  have LR := Lib.hid (show (retL l wi ga n).length = N by rw [HRL.out]; split; rw [List.length_set]; exact hN; exact hN)
  rw [LR.out, hN]
  clear hp ok hN hD p1 p2 p3
  go_enter Try.func11, Try.ntmps11
  go_wp2_with fail
  refine (C.out _ (HP.out.mono (by (repeat' (first | (with_reducible exact Below.refl _ _) | (with_reducible assumption) | (with_reducible refine Below.alloc ?_ ?_ _) | (with_reducible refine Below.drew ?_) | (with_reducible refine below_dn ?_) | (with_reducible refine Below.setCell ?_ ?_ _) | (with_reducible exact Nat.le_refl _) | omega | (simp only [World.size_alloc, World.size_setCell, World.size_drew]; omega) | (simp; omega) | (simp; done)))))).mono ?_
  rintro e w1 ⟨rfl, hb⟩
  have K1 := Lib.hid (show Blk w1 w.heap.size 24 #[.int .i64 cap, .int .i64 len, .slice a N c] from ((Blk.new' w _ _ _ rfl rfl).alloc _).below hb (by simp; omega))
  have K2 := Lib.hid (show Blk w1 (w.heap.size + 1) 24 #[.int .i64 0, .int .i64 0, .slice none 0 0] from (Blk.new' _ _ _ _ (World.size_alloc _ _) rfl).below hb (by simp))
  have B := Lib.hid (bt (show Below w.heap.size w ((w.alloc (.cells #[.int .i64 cap, .int .i64 len, .slice a N c] 24)).alloc (.cells #[.int .i64 0, .int .i64 0, .slice none 0 0] 24)) by (repeat' (first | (with_reducible exact Below.refl _ _) | (with_reducible assumption) | (with_reducible refine Below.alloc ?_ ?_ _) | (with_reducible refine Below.drew ?_) | (with_reducible refine below_dn ?_) | (with_reducible refine Below.setCell ?_ ?_ _) | (with_reducible exact Nat.le_refl _) | omega | (simp only [World.size_alloc, World.size_setCell, World.size_drew]; omega) | (simp; omega) | (simp; done)))) hb)
  clear hb
  obtain ⟨d0, d1, d2⟩ := three K1.out
  obtain ⟨h0, h1, h2⟩ := three K2.out
  have fz := fun q => K2.out.frozen q
  go_wp2_with fail
  refine (C1.out _).mono ?_
  rintro e wz ⟨rfl, rfl⟩
  go_wp2_with fail
  refine (C2.out _).mono ?_
  rintro e wz ⟨rfl, rfl⟩
  go_wp2_with fail
  refine (DE.out _ (HP.out.mono B.out)).mono ?_
  rintro e w2 ⟨rfl, hb⟩
  replace K1 := Lib.hid (K1.out.below hb K1.out.lt)
  replace K2 := Lib.hid (K2.out.below hb K2.out.lt)
  replace B := Lib.hid (bt B.out hb)
  clear hb d0 d1 d2 h0 h1 h2 fz
  obtain ⟨d0, d1, d2⟩ := three K1.out
  obtain ⟨h0, h1, h2⟩ := three K2.out
  have fz := fun q => K2.out.frozen q
  go_wp2_with fail
  refine (C3.out _).mono ?_
  rintro e wz ⟨rfl, rfl⟩
  clear d0 d1 d2 h0 h1 h2 fz C C1 C2 C3 DE
  obtain ⟨d0, d1, d2⟩ := three K1.out
  go_wp2_with fail
  refine (CL.out _ (HP.out.mono B.out)).mono ?_
  rintro e w6 ⟨v6, rfl, ho, hb⟩
  obtain ⟨Z, hZ⟩ : ∃ Z, w2.heap.size = Z := ⟨_, rfl⟩
  have HZ := Lib.hid (show w.heap.size + 2 ≤ Z by have := K2.out.lt; omega)
  have O6 := Lib.hid (show OwnR 72 4 encR w6 Z v6 l by rw [← hZ]; exact ho)
  replace K1 := Lib.hid (K1.out.below hb K1.out.lt)
  replace K2 := Lib.hid (K2.out.below hb K2.out.lt)
  replace B := Lib.hid (bt B.out hb)
  clear hb ho d0 d1 d2 CL
  obtain ⟨d0, d1, d2⟩ := three K1.out
  have fz2 := K1.out.frozen
  obtain ⟨a6, c6, rfl, -, -⟩ := OwnR.view encR_len O6.out
  rw [HE.out] at O6 ⊢
  replace O6 := Lib.hid (OwnR.far O6.out (p := ⟨w.heap.size, 2, none⟩) (show w.heap.size < Z by have := HZ.out; omega) (.slice a6 N c6))
  replace K1 := Lib.hid (show Blk (w6.setCell ⟨w.heap.size, 2, none⟩ (.slice a6 N c6)) w.heap.size 24 #[.int .i64 cap, .int .i64 len, .slice a6 N c6] from K1.out.set_ 2 _)
  replace K2 := Lib.hid (K2.out.far (p := ⟨w.heap.size, 2, none⟩) (by simp) (.slice a6 N c6))
  replace B := Lib.hid (B.out.setCell (p := ⟨w.heap.size, 2, none⟩) (Nat.le_refl _) (.slice a6 N c6))
  go_upto_region 4 with (fail)
  generalize hw7 : w6.setCell ⟨w.heap.size, 2, none⟩ (.slice a6 N c6) = w7 at O6 K1 K2 B ⊢
  clear hw7 d0 d1 d2 hZ fz2
  obtain ⟨d0, d1, d2⟩ := three K1.out
  have HR6 := Lib.hid (show RwA w7 a6 l by
    have h6 := O6.out
    rw [← HE.out] at h6
    obtain ⟨av, cv, ev, -, hv⟩ := OwnR.view encR_len h6
    injection ev with ev1
    subst ev1
    exact hv)
  go_wp2_with fail
  refine (RW.out a6 c6 _ HR6.out).mono ?_
  rintro e w8 ⟨hf, hb⟩
  obtain ⟨i, f, rfl, H0⟩ := hf.tell
  have V := Lib.hid (FV.out i f H0)
  have fl := FL.out i f H0
  replace K1 := Lib.hid (K1.out.below hb K1.out.lt)
  replace K2 := Lib.hid (K2.out.below hb K2.out.lt)
  replace B := Lib.hid (bt B.out hb)
  have O7 := Lib.hid (OwnR.below O6.out hb)
  clear hb hf H0 d0 d1 d2 HR6 O6 RW FV FL
  obtain ⟨d0, d1, d2⟩ := three K1.out
  obtain ⟨h0, h1, h2⟩ := three K2.out
  have fz := fun q => K2.out.frozen q
  cases f
  · have EQ := Lib.hid (show l = retL l wi ga n from by rw [HRL.out, ← V.out.2, if_neg (by simp)])
    go_wp2
    have K3 := Lib.hid (K2.out.set3 (.int .i64 cap) (.int .i64 len) (.slice a6 N c6))
    have B3 := Lib.hid (below_set3 B.out (Nat.le_succ _) (.int .i64 cap) (.int .i64 len) (.slice a6 N c6))
    have O3 := Lib.hid (own_far3 O7.out (show w.heap.size + 1 < Z from by have := HZ.out; omega) (.int .i64 cap) (.int .i64 len) (.slice a6 N c6))
    simp only [set3] at K3 B3 O3
    generalize hw2 : ((w8.setCell ⟨w.heap.size + 1, 0, none⟩ (.int .i64 cap)).setCell ⟨w.heap.size + 1, 1, none⟩ (.int .i64 len)).setCell ⟨w.heap.size + 1, 2, none⟩ (.slice a6 N c6) = w9 at K3 B3 O3 ⊢
    clear hw2 h0 h1 h2 fz d0 d1 d2
    obtain ⟨d0, d1, d2⟩ := three K3.out
    refine bodyPost_ret (by simp [results, Try.results11, go_sem, d0, d1, d2]; try rfl) rfl ?_
    refine ⟨⟨a6, c6, rfl, ?_, fun p hp => by have := OwnR.block O3.out p hp; have := HZ.out; omega⟩, B3.out⟩
    have h9 := O3.out
    rw [← HE.out] at h9
    obtain ⟨av, cv, ev, -, hv⟩ := OwnR.view encR_len h9
    injection ev with ev1
    subst ev1
    rw [← EQ.out]
    exact hv
  · have HI := Lib.hid (fl.2 rfl)
    have hi7 : i < l.length := by rw [HE.out]; exact HI.out
    obtain ⟨g7, rfl, -, hB7, -, -, -, e3, fz7⟩ := own_at O7.out hi7
    obtain ⟨x1, x2, x3, x4, hx⟩ : ∃ x1 x2 x3 x4, l.getD i r0 = (x1, x2, x3, x4) := ⟨_, _, _, _, rfl⟩
    rw [hx] at e3
    simp only at e3
    have ST := Lib.hid (own_set (j := 3) O7.out hi7 (by decide) (.int .i64 (max x4 n)) (x1, x2, x3, max x4 n) (by rw [hx]; rfl))
    have EQ := Lib.hid (show l.set i (x1, x2, x3, max x4 n) = retL l wi ga n from by rw [HRL.out, ← V.out.2, ← V.out.1, if_pos rfl, hx])
    have i0 : (0 : Int) ≤ (i : Int) := by omega
    have iN : (i : Int) < (N : Int) := by have := HI.out; omega
    have ne1 : w.heap.size ≠ g7 := by have := HZ.out; omega
    have ne2 : w.heap.size + 1 ≠ g7 := by have := HZ.out; omega
    obtain ⟨M, hM⟩ : ∃ M, max x4 n = M := ⟨_, rfl⟩
    have hM2 : max n x4 = M := by rw [Int.max_comm]; exact hM
    have hM3 : (if x4 < n then n else x4) = M := by rw [← hM, Int.max_def]; split <;> split <;> omega
    rw [hM] at ST EQ
    have K1n := Lib.hid (K1.out.far (p := ⟨g7, i * 4 + 3, none⟩) ne1 (.int .i64 M))
    have K2n := Lib.hid (K2.out.far (p := ⟨g7, i * 4 + 3, none⟩) ne2 (.int .i64 M))
    have Bn := Lib.hid (B.out.setCell (p := ⟨g7, i * 4 + 3, none⟩) (show w.heap.size ≤ g7 by have := HZ.out; omega) (.int .i64 M))
    clear hx O7 fl hi7 h0 h1 h2 fz
    go_wp2_with fail
    go_region
    replace K1 := Lib.hid K1n.out.drew
    replace K2 := Lib.hid K2n.out.drew
    replace B := Lib.hid (Below.drew Bn.out)
    have O7 := Lib.hid (OwnR.drew ST.out)
    generalize hw7 : World.drew (w8.setCell ⟨g7, i * 4 + 3, none⟩ (.int .i64 M)) = w10 at K1 K2 B O7 ⊢
    clear hw7 ST K1n K2n Bn d0 d1 d2 e3 fz7 hM hM2 hM3
    obtain ⟨d0, d1, d2⟩ := three K1.out
    obtain ⟨h0, h1, h2⟩ := three K2.out
    have fz := fun q => K2.out.frozen q
    go_wp2
    have K3 := Lib.hid (K2.out.set3 (.int .i64 cap) (.int .i64 len) (.slice (some ⟨g7, 0, none⟩) N c6))
    have B3 := Lib.hid (below_set3 B.out (Nat.le_succ _) (.int .i64 cap) (.int .i64 len) (.slice (some ⟨g7, 0, none⟩) N c6))
    have O3 := Lib.hid (own_far3 O7.out (show w.heap.size + 1 < Z from by have := HZ.out; omega) (.int .i64 cap) (.int .i64 len) (.slice (some ⟨g7, 0, none⟩) N c6))
    simp only [set3] at K3 B3 O3
    generalize hw2 : ((w10.setCell ⟨w.heap.size + 1, 0, none⟩ (.int .i64 cap)).setCell ⟨w.heap.size + 1, 1, none⟩ (.int .i64 len)).setCell ⟨w.heap.size + 1, 2, none⟩ (.slice (some ⟨g7, 0, none⟩) N c6) = w9 at K3 B3 O3 ⊢
    clear hw2 h0 h1 h2 fz d0 d1 d2
    obtain ⟨d0, d1, d2⟩ := three K3.out
    refine bodyPost_ret (by simp [results, Try.results11, go_sem, d0, d1, d2]; try rfl) rfl ?_
    refine ⟨⟨some ⟨g7, 0, none⟩, c6, rfl, ?_, fun p hp => by have := OwnR.block O3.out p hp; have := HZ.out; omega⟩, B3.out⟩
    have h9 := O3.out
    have LQ := LR.out
    rw [← EQ.out] at LQ ⊢
    rw [← LQ] at h9
    obtain ⟨av, cv, ev, -, hv⟩ := OwnR.view encR_len h9
    injection ev with ev1
    subst ev1
    exact hv
end Go.Proofs.Ytcgdhankllphgaa
