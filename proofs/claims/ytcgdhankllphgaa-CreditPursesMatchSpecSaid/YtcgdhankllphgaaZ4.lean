/- Spend and Give of the reference, both sides, and law 4 (RQ, BP, S4 in one text) -/
import Derived.Test.YtcgdhankllphgaaZ4a
import Derived.Test.YtcgdhankllphgaaRL
import Derived.Test.YtcgdhankllphgaaE
import Derived.Test.YtcgdhankllphgaaGV
import Derived.Test.YtcgdhankllphgaaSM
import Derived.Test.YtcgdhankllphgaaNG
import Derived.Test.YtcgdhankllphgaaSB
namespace Go.Proofs.Ytcgdhankllphgaa
set_option linter.unusedVariables false
set_option linter.unusedSimpArgs false
section
open Go.RowKit Go.Sort
set_option maxRecDepth 100000 in
set_option maxHeartbeats 2000000 in
theorem giveref_arg (len : Int) (a : Option Addr) (c : Nat) (l : List Rw) (wi n : Int) (w : World) (hp : RwA w a l) (h : ¬ (OkP len l ∧ winOk wi ∧ 1 ≤ n ∧ n ≤ 1073741824)) (hm : l.length ≤ 9223372036854775807) :
    Calls Try.prog 32 #[.agg #[.int .i64 len, .slice a l.length c], .int .i64 wi, .int .i64 n] w fun e w' => e = .returned (.agg #[.int .i64 0, .slice none 0 0, .int .i64 1]) ∧ Below w.heap.size w w' := by
  have HP := Lib.hid hp
  obtain ⟨N, hN⟩ : ∃ N, l.length = N := ⟨_, rfl⟩
  by_cases ok : OkP len l
  · have C := Lib.hid (fun (X : World) (h : RwA X a l) => rvalidp_yes ok a c X h)
    simp only [hN] at C
    by_cases p1 : winOk wi
    · have C1 := Lib.hid (fun W => rwin_yes p1 W)
      have h3 : ¬ (1 ≤ n ∧ n ≤ 1073741824) := fun q => h ⟨ok, p1, q.1, q.2⟩
      rw [hN]
      clear h ok p1 hp hN hm
      by_cases h1 : n < 1
      · have t1 : decide (n < 1) = true := decide_eq_true (by omega)
        clear h1 h3
        go_enter Try.func32, Try.ntmps32
        obtain ⟨G, hG⟩ : ∃ G, w.heap.size = G := ⟨_, rfl⟩
        have HG := Lib.hid hG
        have Kb := Lib.hid (show Blk ((w.alloc (.cells #[.int .i64 len, .slice a N c] 45)).alloc (.cells #[.int .i64 0, .slice none 0 0, .int .i64 0] 51)) (G) 45 #[.int .i64 len, .slice a N c] from (Blk.new' _ _ _ _ hG rfl).alloc _)
        have Kr := Lib.hid (show Blk ((w.alloc (.cells #[.int .i64 len, .slice a N c] 45)).alloc (.cells #[.int .i64 0, .slice none 0 0, .int .i64 0] 51)) (G + 1) 51 #[.int .i64 0, .slice none 0 0, .int .i64 0] from Blk.new' _ _ _ _ (by rw [World.size_alloc, hG]) rfl)
        have B := Lib.hid (show Below w.heap.size w ((w.alloc (.cells #[.int .i64 len, .slice a N c] 45)).alloc (.cells #[.int .i64 0, .slice none 0 0, .int .i64 0] 51)) by (repeat' (first | (with_reducible exact Below.refl _ _) | (with_reducible assumption) | (with_reducible refine Below.alloc ?_ ?_ _) | (with_reducible refine Below.drew ?_) | (with_reducible refine below_dn ?_) | (with_reducible refine Below.setCell ?_ ?_ _) | (with_reducible exact Nat.le_refl _) | omega | (simp only [World.size_alloc, World.size_setCell, World.size_drew]; omega) | (simp; omega) | (simp; done))))
        go_upto_region 1 with (fail)
        try rw [hG]
        generalize hw0 : ((w.alloc (.cells #[.int .i64 len, .slice a N c] 45)).alloc (.cells #[.int .i64 0, .slice none 0 0, .int .i64 0] 51)) = w0 at Kb Kr B ⊢
        clear hw0 hG
        obtain ⟨bbc0, bbc1⟩ := twob Kb.out
        obtain ⟨brc0, brc1, brc2⟩ := three Kr.out
        go_wp2_with fail
        refine (C.out _ (HP.out.mono B.out)).mono ?_
        rintro e w1 ⟨rfl, hb⟩
        replace Kb := Lib.hid (Kb.out.below hb Kb.out.lt)
        replace Kr := Lib.hid (Kr.out.below hb Kr.out.lt)
        replace B := Lib.hid (B.out.trans (hb.mono B.out.size))
        clear bbc0 bbc1 brc0 brc1 brc2
        clear hb
        obtain ⟨bbc0, bbc1⟩ := twob Kb.out
        obtain ⟨brc0, brc1, brc2⟩ := three Kr.out
        go_wp2_with fail
        refine (C1.out _).mono ?_
        rintro e wz ⟨rfl, rfl⟩
        clear bbc0 bbc1 brc0 brc1 brc2
        obtain ⟨bbc0, bbc1⟩ := twob Kb.out
        obtain ⟨brc0, brc1, brc2⟩ := three Kr.out
        have fzr := fun q => Kr.out.frozen q
        go_wp2
        have K9 := Lib.hid (Kr.out.set3 (.int .i64 0) (.slice none 0 0) (.int .i64 1))
        have B9 := (((B.out.setCell (p := ⟨G + 1, 0, none⟩) (show w.heap.size ≤ G + 1 by have := HG.out; omega) (.int .i64 0)).setCell (p := ⟨G + 1, 1, none⟩) (show w.heap.size ≤ G + 1 by have := HG.out; omega) (.slice none 0 0)).setCell (p := ⟨G + 1, 2, none⟩) (show w.heap.size ≤ G + 1 by have := HG.out; omega) (.int .i64 1))
        simp only [set3] at K9
        generalize hw2 : (((w1.setCell ⟨G + 1, 0, none⟩ (.int .i64 0)).setCell ⟨G + 1, 1, none⟩ (.slice none 0 0)).setCell ⟨G + 1, 2, none⟩ (.int .i64 1)) = w9 at K9 B9 ⊢
        clear bbc0 bbc1 brc0 brc1 brc2 fzr
        clear hw2
        obtain ⟨d0, d1, d2⟩ := three K9.out
        refine bodyPost_ret (by simp [results, Try.results32, go_sem, d0, d1, d2]; try rfl) rfl ?_
        exact ⟨rfl, B9⟩
      · have t1 : decide (n < 1) = false := decide_eq_false (by omega)
        have t2 : decide (1073741824 < n) = true := decide_eq_true (by omega)
        clear h1 h3
        go_enter Try.func32, Try.ntmps32
        obtain ⟨G, hG⟩ : ∃ G, w.heap.size = G := ⟨_, rfl⟩
        have HG := Lib.hid hG
        have Kb := Lib.hid (show Blk ((w.alloc (.cells #[.int .i64 len, .slice a N c] 45)).alloc (.cells #[.int .i64 0, .slice none 0 0, .int .i64 0] 51)) (G) 45 #[.int .i64 len, .slice a N c] from (Blk.new' _ _ _ _ hG rfl).alloc _)
        have Kr := Lib.hid (show Blk ((w.alloc (.cells #[.int .i64 len, .slice a N c] 45)).alloc (.cells #[.int .i64 0, .slice none 0 0, .int .i64 0] 51)) (G + 1) 51 #[.int .i64 0, .slice none 0 0, .int .i64 0] from Blk.new' _ _ _ _ (by rw [World.size_alloc, hG]) rfl)
        have B := Lib.hid (show Below w.heap.size w ((w.alloc (.cells #[.int .i64 len, .slice a N c] 45)).alloc (.cells #[.int .i64 0, .slice none 0 0, .int .i64 0] 51)) by (repeat' (first | (with_reducible exact Below.refl _ _) | (with_reducible assumption) | (with_reducible refine Below.alloc ?_ ?_ _) | (with_reducible refine Below.drew ?_) | (with_reducible refine below_dn ?_) | (with_reducible refine Below.setCell ?_ ?_ _) | (with_reducible exact Nat.le_refl _) | omega | (simp only [World.size_alloc, World.size_setCell, World.size_drew]; omega) | (simp; omega) | (simp; done))))
        go_upto_region 1 with (fail)
        try rw [hG]
        generalize hw0 : ((w.alloc (.cells #[.int .i64 len, .slice a N c] 45)).alloc (.cells #[.int .i64 0, .slice none 0 0, .int .i64 0] 51)) = w0 at Kb Kr B ⊢
        clear hw0 hG
        obtain ⟨bbc0, bbc1⟩ := twob Kb.out
        obtain ⟨brc0, brc1, brc2⟩ := three Kr.out
        go_wp2_with fail
        refine (C.out _ (HP.out.mono B.out)).mono ?_
        rintro e w1 ⟨rfl, hb⟩
        replace Kb := Lib.hid (Kb.out.below hb Kb.out.lt)
        replace Kr := Lib.hid (Kr.out.below hb Kr.out.lt)
        replace B := Lib.hid (B.out.trans (hb.mono B.out.size))
        clear bbc0 bbc1 brc0 brc1 brc2
        clear hb
        obtain ⟨bbc0, bbc1⟩ := twob Kb.out
        obtain ⟨brc0, brc1, brc2⟩ := three Kr.out
        go_wp2_with fail
        refine (C1.out _).mono ?_
        rintro e wz ⟨rfl, rfl⟩
        clear bbc0 bbc1 brc0 brc1 brc2
        obtain ⟨bbc0, bbc1⟩ := twob Kb.out
        obtain ⟨brc0, brc1, brc2⟩ := three Kr.out
        have fzr := fun q => Kr.out.frozen q
        go_wp2
        have K9 := Lib.hid (Kr.out.set3 (.int .i64 0) (.slice none 0 0) (.int .i64 1))
        have B9 := (((B.out.setCell (p := ⟨G + 1, 0, none⟩) (show w.heap.size ≤ G + 1 by have := HG.out; omega) (.int .i64 0)).setCell (p := ⟨G + 1, 1, none⟩) (show w.heap.size ≤ G + 1 by have := HG.out; omega) (.slice none 0 0)).setCell (p := ⟨G + 1, 2, none⟩) (show w.heap.size ≤ G + 1 by have := HG.out; omega) (.int .i64 1))
        simp only [set3] at K9
        generalize hw2 : (((w1.setCell ⟨G + 1, 0, none⟩ (.int .i64 0)).setCell ⟨G + 1, 1, none⟩ (.slice none 0 0)).setCell ⟨G + 1, 2, none⟩ (.int .i64 1)) = w9 at K9 B9 ⊢
        clear bbc0 bbc1 brc0 brc1 brc2 fzr
        clear hw2
        obtain ⟨d0, d1, d2⟩ := three K9.out
        refine bodyPost_ret (by simp [results, Try.results32, go_sem, d0, d1, d2]; try rfl) rfl ?_
        exact ⟨rfl, B9⟩
    · have C1 := Lib.hid (fun W => rwin_no p1 W)
      rw [hN]
      clear h ok p1 hp hN hm
      go_enter Try.func32, Try.ntmps32
      obtain ⟨G, hG⟩ : ∃ G, w.heap.size = G := ⟨_, rfl⟩
      have HG := Lib.hid hG
      have Kb := Lib.hid (show Blk ((w.alloc (.cells #[.int .i64 len, .slice a N c] 45)).alloc (.cells #[.int .i64 0, .slice none 0 0, .int .i64 0] 51)) (G) 45 #[.int .i64 len, .slice a N c] from (Blk.new' _ _ _ _ hG rfl).alloc _)
      have Kr := Lib.hid (show Blk ((w.alloc (.cells #[.int .i64 len, .slice a N c] 45)).alloc (.cells #[.int .i64 0, .slice none 0 0, .int .i64 0] 51)) (G + 1) 51 #[.int .i64 0, .slice none 0 0, .int .i64 0] from Blk.new' _ _ _ _ (by rw [World.size_alloc, hG]) rfl)
      have B := Lib.hid (show Below w.heap.size w ((w.alloc (.cells #[.int .i64 len, .slice a N c] 45)).alloc (.cells #[.int .i64 0, .slice none 0 0, .int .i64 0] 51)) by (repeat' (first | (with_reducible exact Below.refl _ _) | (with_reducible assumption) | (with_reducible refine Below.alloc ?_ ?_ _) | (with_reducible refine Below.drew ?_) | (with_reducible refine below_dn ?_) | (with_reducible refine Below.setCell ?_ ?_ _) | (with_reducible exact Nat.le_refl _) | omega | (simp only [World.size_alloc, World.size_setCell, World.size_drew]; omega) | (simp; omega) | (simp; done))))
      go_upto_region 1 with (fail)
      try rw [hG]
      generalize hw0 : ((w.alloc (.cells #[.int .i64 len, .slice a N c] 45)).alloc (.cells #[.int .i64 0, .slice none 0 0, .int .i64 0] 51)) = w0 at Kb Kr B ⊢
      clear hw0 hG
      obtain ⟨bbc0, bbc1⟩ := twob Kb.out
      obtain ⟨brc0, brc1, brc2⟩ := three Kr.out
      go_wp2_with fail
      refine (C.out _ (HP.out.mono B.out)).mono ?_
      rintro e w1 ⟨rfl, hb⟩
      replace Kb := Lib.hid (Kb.out.below hb Kb.out.lt)
      replace Kr := Lib.hid (Kr.out.below hb Kr.out.lt)
      replace B := Lib.hid (B.out.trans (hb.mono B.out.size))
      clear bbc0 bbc1 brc0 brc1 brc2
      clear hb
      obtain ⟨bbc0, bbc1⟩ := twob Kb.out
      obtain ⟨brc0, brc1, brc2⟩ := three Kr.out
      go_wp2_with fail
      refine (C1.out _).mono ?_
      rintro e wz ⟨rfl, rfl⟩
      clear bbc0 bbc1 brc0 brc1 brc2
      obtain ⟨bbc0, bbc1⟩ := twob Kb.out
      obtain ⟨brc0, brc1, brc2⟩ := three Kr.out
      have fzr := fun q => Kr.out.frozen q
      go_wp2
      have K9 := Lib.hid (Kr.out.set3 (.int .i64 0) (.slice none 0 0) (.int .i64 1))
      have B9 := (((B.out.setCell (p := ⟨G + 1, 0, none⟩) (show w.heap.size ≤ G + 1 by have := HG.out; omega) (.int .i64 0)).setCell (p := ⟨G + 1, 1, none⟩) (show w.heap.size ≤ G + 1 by have := HG.out; omega) (.slice none 0 0)).setCell (p := ⟨G + 1, 2, none⟩) (show w.heap.size ≤ G + 1 by have := HG.out; omega) (.int .i64 1))
      simp only [set3] at K9
      generalize hw2 : (((w1.setCell ⟨G + 1, 0, none⟩ (.int .i64 0)).setCell ⟨G + 1, 1, none⟩ (.slice none 0 0)).setCell ⟨G + 1, 2, none⟩ (.int .i64 1)) = w9 at K9 B9 ⊢
      clear bbc0 bbc1 brc0 brc1 brc2 fzr
      clear hw2
      obtain ⟨d0, d1, d2⟩ := three K9.out
      refine bodyPost_ret (by simp [results, Try.results32, go_sem, d0, d1, d2]; try rfl) rfl ?_
      exact ⟨rfl, B9⟩
  · have C := Lib.hid (fun (X : World) (h : RwA X a l) => rvalidp_no ok hm a c X h)
    simp only [hN] at C
    rw [hN]
    clear h ok hp hN hm
    go_enter Try.func32, Try.ntmps32
    obtain ⟨G, hG⟩ : ∃ G, w.heap.size = G := ⟨_, rfl⟩
    have HG := Lib.hid hG
    have Kb := Lib.hid (show Blk ((w.alloc (.cells #[.int .i64 len, .slice a N c] 45)).alloc (.cells #[.int .i64 0, .slice none 0 0, .int .i64 0] 51)) (G) 45 #[.int .i64 len, .slice a N c] from (Blk.new' _ _ _ _ hG rfl).alloc _)
    have Kr := Lib.hid (show Blk ((w.alloc (.cells #[.int .i64 len, .slice a N c] 45)).alloc (.cells #[.int .i64 0, .slice none 0 0, .int .i64 0] 51)) (G + 1) 51 #[.int .i64 0, .slice none 0 0, .int .i64 0] from Blk.new' _ _ _ _ (by rw [World.size_alloc, hG]) rfl)
    have B := Lib.hid (show Below w.heap.size w ((w.alloc (.cells #[.int .i64 len, .slice a N c] 45)).alloc (.cells #[.int .i64 0, .slice none 0 0, .int .i64 0] 51)) by (repeat' (first | (with_reducible exact Below.refl _ _) | (with_reducible assumption) | (with_reducible refine Below.alloc ?_ ?_ _) | (with_reducible refine Below.drew ?_) | (with_reducible refine below_dn ?_) | (with_reducible refine Below.setCell ?_ ?_ _) | (with_reducible exact Nat.le_refl _) | omega | (simp only [World.size_alloc, World.size_setCell, World.size_drew]; omega) | (simp; omega) | (simp; done))))
    go_upto_region 1 with (fail)
    try rw [hG]
    generalize hw0 : ((w.alloc (.cells #[.int .i64 len, .slice a N c] 45)).alloc (.cells #[.int .i64 0, .slice none 0 0, .int .i64 0] 51)) = w0 at Kb Kr B ⊢
    clear hw0 hG
    obtain ⟨bbc0, bbc1⟩ := twob Kb.out
    obtain ⟨brc0, brc1, brc2⟩ := three Kr.out
    go_wp2_with fail
    refine (C.out _ (HP.out.mono B.out)).mono ?_
    rintro e w1 ⟨rfl, hb⟩
    replace Kb := Lib.hid (Kb.out.below hb Kb.out.lt)
    replace Kr := Lib.hid (Kr.out.below hb Kr.out.lt)
    replace B := Lib.hid (B.out.trans (hb.mono B.out.size))
    clear bbc0 bbc1 brc0 brc1 brc2
    clear hb
    obtain ⟨bbc0, bbc1⟩ := twob Kb.out
    obtain ⟨brc0, brc1, brc2⟩ := three Kr.out
    clear bbc0 bbc1 brc0 brc1 brc2
    obtain ⟨bbc0, bbc1⟩ := twob Kb.out
    obtain ⟨brc0, brc1, brc2⟩ := three Kr.out
    have fzr := fun q => Kr.out.frozen q
    go_wp2
    have K9 := Lib.hid (Kr.out.set3 (.int .i64 0) (.slice none 0 0) (.int .i64 1))
    have B9 := (((B.out.setCell (p := ⟨G + 1, 0, none⟩) (show w.heap.size ≤ G + 1 by have := HG.out; omega) (.int .i64 0)).setCell (p := ⟨G + 1, 1, none⟩) (show w.heap.size ≤ G + 1 by have := HG.out; omega) (.slice none 0 0)).setCell (p := ⟨G + 1, 2, none⟩) (show w.heap.size ≤ G + 1 by have := HG.out; omega) (.int .i64 1))
    simp only [set3] at K9
    generalize hw2 : (((w1.setCell ⟨G + 1, 0, none⟩ (.int .i64 0)).setCell ⟨G + 1, 1, none⟩ (.slice none 0 0)).setCell ⟨G + 1, 2, none⟩ (.int .i64 1)) = w9 at K9 B9 ⊢
    clear bbc0 bbc1 brc0 brc1 brc2 fzr
    clear hw2
    obtain ⟨d0, d1, d2⟩ := three K9.out
    refine bodyPost_ret (by simp [results, Try.results32, go_sem, d0, d1, d2]; try rfl) rfl ?_
    exact ⟨rfl, B9⟩
set_option maxRecDepth 100000 in
set_option maxHeartbeats 2000000 in
theorem giveref_none (len : Int) (a : Option Addr) (c : Nat) (l : List Rw) (wi n : Int) (w : World) (hp : RwA w a l) (ok : OkP len l) (p1 : winOk wi) (p2 : 1 ≤ n ∧ n ≤ 1073741824) (h : leftX (coinL l wi) < n) :
    Calls Try.prog 32 #[.agg #[.int .i64 len, .slice a l.length c], .int .i64 wi, .int .i64 n] w fun e w' => e = .returned (.agg #[.int .i64 0, .slice none 0 0, .int .i64 4]) ∧ Below w.heap.size w w' := by
  have LT := Lib.hid (fun (X : World) (h : RwA X a l) => leftref_any len a c l wi X h ok)
  obtain ⟨F, hF⟩ : ∃ z, leftX (coinL l wi) = z := ⟨_, rfl⟩
  simp only [hF] at LT
  have HP := Lib.hid hp
  have hm := ok.head.2
  have C := Lib.hid (fun (X : World) (h : RwA X a l) => rvalidp_yes ok a c X h)
  have C1 := Lib.hid (fun W => rwin_yes p1 W)
  have t1 : decide (n < 1) = false := decide_eq_false (by omega)
  have t2 : decide (1073741824 < n) = false := decide_eq_false (by omega)
  have CO := Lib.hid (fun (X : World) (h : RwA X a l) => coinref_any len a c l wi X h ok.ord (by have := ok.head.2; omega))
  have ck := coinL_ok ok wi
  obtain ⟨x2, x3, x4, hx⟩ := coinL_is l wi
  obtain ⟨hh, hhh⟩ : ∃ z, hasC (cW wi) l = z := ⟨_, rfl⟩
  simp only [hx, hhh, encR] at CO
  rw [hx] at ck
  simp only at ck
  obtain ⟨⟨k1, k2⟩, ⟨k3, k4⟩, k5, k6⟩ := ck
  obtain ⟨N, hN⟩ : ∃ N, l.length = N := ⟨_, rfl⟩
  simp only [hN] at C CO
  simp only [hN] at LT
  rw [hN]
  rw [hF] at h
  have s1 : decide (F < n) = true := decide_eq_true h
  clear h hx hhh hN hF
  clear k1 k2 k3 k4 k5 k6 hp ok p1 p2 hm
  go_enter Try.func32, Try.ntmps32
  obtain ⟨G, hG⟩ : ∃ G, w.heap.size = G := ⟨_, rfl⟩
  have HG := Lib.hid hG
  have Kb := Lib.hid (show Blk ((w.alloc (.cells #[.int .i64 len, .slice a N c] 45)).alloc (.cells #[.int .i64 0, .slice none 0 0, .int .i64 0] 51)) (G) 45 #[.int .i64 len, .slice a N c] from (Blk.new' _ _ _ _ hG rfl).alloc _)
  have Kr := Lib.hid (show Blk ((w.alloc (.cells #[.int .i64 len, .slice a N c] 45)).alloc (.cells #[.int .i64 0, .slice none 0 0, .int .i64 0] 51)) (G + 1) 51 #[.int .i64 0, .slice none 0 0, .int .i64 0] from Blk.new' _ _ _ _ (by rw [World.size_alloc, hG]) rfl)
  have B := Lib.hid (show Below w.heap.size w ((w.alloc (.cells #[.int .i64 len, .slice a N c] 45)).alloc (.cells #[.int .i64 0, .slice none 0 0, .int .i64 0] 51)) by (repeat' (first | (with_reducible exact Below.refl _ _) | (with_reducible assumption) | (with_reducible refine Below.alloc ?_ ?_ _) | (with_reducible refine Below.drew ?_) | (with_reducible refine below_dn ?_) | (with_reducible refine Below.setCell ?_ ?_ _) | (with_reducible exact Nat.le_refl _) | omega | (simp only [World.size_alloc, World.size_setCell, World.size_drew]; omega) | (simp; omega) | (simp; done))))
  go_upto_region 1 with (fail)
  try rw [hG]
  generalize hw0 : ((w.alloc (.cells #[.int .i64 len, .slice a N c] 45)).alloc (.cells #[.int .i64 0, .slice none 0 0, .int .i64 0] 51)) = w0 at Kb Kr B ⊢
  clear hw0 hG
  obtain ⟨bbc0, bbc1⟩ := twob Kb.out
  obtain ⟨brc0, brc1, brc2⟩ := three Kr.out
  go_wp2_with fail
  refine (C.out _ (HP.out.mono B.out)).mono ?_
  rintro e w1 ⟨rfl, hb⟩
  replace Kb := Lib.hid (Kb.out.below hb Kb.out.lt)
  replace Kr := Lib.hid (Kr.out.below hb Kr.out.lt)
  replace B := Lib.hid (B.out.trans (hb.mono B.out.size))
  clear bbc0 bbc1 brc0 brc1 brc2
  clear hb
  obtain ⟨bbc0, bbc1⟩ := twob Kb.out
  obtain ⟨brc0, brc1, brc2⟩ := three Kr.out
  go_wp2_with fail
  refine (C1.out _).mono ?_
  rintro e wz ⟨rfl, rfl⟩
  go_wp2_with fail
  refine (LT.out _ (HP.out.mono B.out)).mono ?_
  rintro e w2 ⟨rfl, hb⟩
  replace Kb := Lib.hid (Kb.out.below hb Kb.out.lt)
  replace Kr := Lib.hid (Kr.out.below hb Kr.out.lt)
  replace B := Lib.hid (B.out.trans (hb.mono B.out.size))
  clear bbc0 bbc1 brc0 brc1 brc2
  clear hb
  obtain ⟨bbc0, bbc1⟩ := twob Kb.out
  obtain ⟨brc0, brc1, brc2⟩ := three Kr.out
  clear bbc0 bbc1 brc0 brc1 brc2
  obtain ⟨bbc0, bbc1⟩ := twob Kb.out
  obtain ⟨brc0, brc1, brc2⟩ := three Kr.out
  have fzr := fun q => Kr.out.frozen q
  go_wp2
  have K9 := Lib.hid (Kr.out.set3 (.int .i64 0) (.slice none 0 0) (.int .i64 4))
  have B9 := (((B.out.setCell (p := ⟨G + 1, 0, none⟩) (show w.heap.size ≤ G + 1 by have := HG.out; omega) (.int .i64 0)).setCell (p := ⟨G + 1, 1, none⟩) (show w.heap.size ≤ G + 1 by have := HG.out; omega) (.slice none 0 0)).setCell (p := ⟨G + 1, 2, none⟩) (show w.heap.size ≤ G + 1 by have := HG.out; omega) (.int .i64 4))
  simp only [set3] at K9
  generalize hw2 : (((w2.setCell ⟨G + 1, 0, none⟩ (.int .i64 0)).setCell ⟨G + 1, 1, none⟩ (.slice none 0 0)).setCell ⟨G + 1, 2, none⟩ (.int .i64 4)) = w9 at K9 B9 ⊢
  clear bbc0 bbc1 brc0 brc1 brc2 fzr
  clear hw2
  obtain ⟨d0, d1, d2⟩ := three K9.out
  refine bodyPost_ret (by simp [results, Try.results32, go_sem, d0, d1, d2]; try rfl) rfl ?_
  exact ⟨rfl, B9⟩
set_option maxRecDepth 100000 in
set_option maxHeartbeats 2000000 in
theorem giveref_ok (len : Int) (a : Option Addr) (c : Nat) (l : List Rw) (wi n : Int) (w : World) (hp : RwA w a l) (ok : OkP len l) (p1 : winOk wi) (p2 : 1 ≤ n ∧ n ≤ 1073741824) (h : ¬ leftX (coinL l wi) < n) :
    Calls Try.prog 32 #[.agg #[.int .i64 len, .slice a l.length c], .int .i64 wi, .int .i64 n] w fun e w' => (∃ a' c', e = .returned (.agg #[.int .i64 len, .slice a' (giveL l wi n).length c', .int .i64 0]) ∧ RwA w' a' (giveL l wi n)) ∧ Below w.heap.size w w' := by
  have LT := Lib.hid (fun (X : World) (h : RwA X a l) => leftref_any len a c l wi X h ok)
  obtain ⟨F, hF⟩ : ∃ z, leftX (coinL l wi) = z := ⟨_, rfl⟩
  simp only [hF] at LT
  have HP := Lib.hid hp
  have hm := ok.head.2
  have C := Lib.hid (fun (X : World) (h : RwA X a l) => rvalidp_yes ok a c X h)
  have C1 := Lib.hid (fun W => rwin_yes p1 W)
  have t1 : decide (n < 1) = false := decide_eq_false (by omega)
  have t2 : decide (1073741824 < n) = false := decide_eq_false (by omega)
  have CO := Lib.hid (fun (X : World) (h : RwA X a l) => coinref_any len a c l wi X h ok.ord (by have := ok.head.2; omega))
  have ck := coinL_ok ok wi
  obtain ⟨x2, x3, x4, hx⟩ := coinL_is l wi
  obtain ⟨hh, hhh⟩ : ∃ z, hasC (cW wi) l = z := ⟨_, rfl⟩
  simp only [hx, hhh, encR] at CO
  rw [hx] at ck
  simp only at ck
  obtain ⟨⟨k1, k2⟩, ⟨k3, k4⟩, k5, k6⟩ := ck
  obtain ⟨N, hN⟩ : ∃ N, l.length = N := ⟨_, rfl⟩
  simp only [hN] at C CO
  simp only [hN] at LT
  have e : giveL l wi n = withL l (wi, x2, x3, x4 + n) := by
    unfold giveL
    rw [hx]
  have PU := Lib.hid (fun (X : World) (h : RwA X a l) => set_any len a c l (wi, x2, x3, x4 + n) X h ok.ord (by omega))
  rw [put_with (by right; simp; omega)] at PU
  simp only [encR] at PU
  rw [e]
  rw [hF] at h
  have fb : F = x2 - x3 - x4 := by rw [← hF, hx]; rfl
  have s1 : decide (F < n) = false := decide_eq_false h
  have wQ : IntKind.i64.wrap (x4 + n) = x4 + n := by rw [IntKind.wrap_i64]; omega
  obtain ⟨Q, hQ⟩ : ∃ z, x4 + n = z := ⟨_, rfl⟩
  rw [hQ] at wQ
  have wQ2 : IntKind.i64.wrap Q = Q := wQ
  obtain ⟨L, hL⟩ : ∃ z, withL l (wi, x2, x3, x4 + n) = z := ⟨_, rfl⟩
  obtain ⟨M, hM⟩ : ∃ M, L.length = M := ⟨_, rfl⟩
  simp only [hL, hN, hM] at PU
  simp only [hQ] at PU
  rw [hN, hL, hM]
  clear h hx hhh hN hF hL hM e fb
  clear k1 k2 k3 k4 k5 k6 hp ok p1 p2 hm
  go_enter Try.func32, Try.ntmps32
  obtain ⟨G, hG⟩ : ∃ G, w.heap.size = G := ⟨_, rfl⟩
  have HG := Lib.hid hG
  have Kb := Lib.hid (show Blk ((w.alloc (.cells #[.int .i64 len, .slice a N c] 45)).alloc (.cells #[.int .i64 0, .slice none 0 0, .int .i64 0] 51)) (G) 45 #[.int .i64 len, .slice a N c] from (Blk.new' _ _ _ _ hG rfl).alloc _)
  have Kr := Lib.hid (show Blk ((w.alloc (.cells #[.int .i64 len, .slice a N c] 45)).alloc (.cells #[.int .i64 0, .slice none 0 0, .int .i64 0] 51)) (G + 1) 51 #[.int .i64 0, .slice none 0 0, .int .i64 0] from Blk.new' _ _ _ _ (by rw [World.size_alloc, hG]) rfl)
  have B := Lib.hid (show Below w.heap.size w ((w.alloc (.cells #[.int .i64 len, .slice a N c] 45)).alloc (.cells #[.int .i64 0, .slice none 0 0, .int .i64 0] 51)) by (repeat' (first | (with_reducible exact Below.refl _ _) | (with_reducible assumption) | (with_reducible refine Below.alloc ?_ ?_ _) | (with_reducible refine Below.drew ?_) | (with_reducible refine below_dn ?_) | (with_reducible refine Below.setCell ?_ ?_ _) | (with_reducible exact Nat.le_refl _) | omega | (simp only [World.size_alloc, World.size_setCell, World.size_drew]; omega) | (simp; omega) | (simp; done))))
  go_upto_region 1 with (fail)
  try rw [hG]
  generalize hw0 : ((w.alloc (.cells #[.int .i64 len, .slice a N c] 45)).alloc (.cells #[.int .i64 0, .slice none 0 0, .int .i64 0] 51)) = w0 at Kb Kr B ⊢
  clear hw0 hG
  obtain ⟨bbc0, bbc1⟩ := twob Kb.out
  obtain ⟨brc0, brc1, brc2⟩ := three Kr.out
  go_wp2_with fail
  refine (C.out _ (HP.out.mono B.out)).mono ?_
  rintro e w1 ⟨rfl, hb⟩
  replace Kb := Lib.hid (Kb.out.below hb Kb.out.lt)
  replace Kr := Lib.hid (Kr.out.below hb Kr.out.lt)
  replace B := Lib.hid (B.out.trans (hb.mono B.out.size))
  clear bbc0 bbc1 brc0 brc1 brc2
  clear hb
  obtain ⟨bbc0, bbc1⟩ := twob Kb.out
  obtain ⟨brc0, brc1, brc2⟩ := three Kr.out
  go_wp2_with fail
  refine (C1.out _).mono ?_
  rintro e wz ⟨rfl, rfl⟩
  go_wp2_with fail
  refine (LT.out _ (HP.out.mono B.out)).mono ?_
  rintro e w2 ⟨rfl, hb⟩
  replace Kb := Lib.hid (Kb.out.below hb Kb.out.lt)
  replace Kr := Lib.hid (Kr.out.below hb Kr.out.lt)
  replace B := Lib.hid (B.out.trans (hb.mono B.out.size))
  clear bbc0 bbc1 brc0 brc1 brc2
  clear hb
  obtain ⟨bbc0, bbc1⟩ := twob Kb.out
  obtain ⟨brc0, brc1, brc2⟩ := three Kr.out
  go_wp2_with fail
  refine (CO.out _ (HP.out.mono B.out)).mono ?_
  rintro e w3 ⟨rfl, hb⟩
  replace Kb := Lib.hid (Kb.out.below hb Kb.out.lt)
  replace Kr := Lib.hid (Kr.out.below hb Kr.out.lt)
  replace B := Lib.hid (B.out.trans (hb.mono B.out.size))
  clear bbc0 bbc1 brc0 brc1 brc2
  clear hb
  obtain ⟨bbc0, bbc1⟩ := twob Kb.out
  obtain ⟨brc0, brc1, brc2⟩ := three Kr.out
  obtain ⟨gx, hgx⟩ : ∃ G, w3.heap.size = G := ⟨_, rfl⟩
  have Kx := Lib.hid (show Blk (w3.alloc (.cells #[.int .i64 wi, .int .i64 x2, .int .i64 x3, .int .i64 x4] 89)) gx 89 #[.int .i64 wi, .int .i64 x2, .int .i64 x3, .int .i64 x4] from Blk.new' w3 _ _ _ hgx rfl)
  have Nbx := Lib.hid (show G < gx from by rw [← hgx]; exact Kb.out.lt)
  replace Kb := Lib.hid (Kb.out.alloc (.cells #[.int .i64 wi, .int .i64 x2, .int .i64 x3, .int .i64 x4] 89))
  have Nrx := Lib.hid (show G + 1 < gx from by rw [← hgx]; exact Kr.out.lt)
  replace Kr := Lib.hid (Kr.out.alloc (.cells #[.int .i64 wi, .int .i64 x2, .int .i64 x3, .int .i64 x4] 89))
  have Lx := Lib.hid (show w.heap.size ≤ gx from by rw [← hgx]; exact B.out.size)
  replace B := Lib.hid (B.out.alloc B.out.size (.cells #[.int .i64 wi, .int .i64 x2, .int .i64 x3, .int .i64 x4] 89))
  go_upto_region 6 with (fail)
  try rw [hgx]
  generalize hw : w3.alloc (.cells #[.int .i64 wi, .int .i64 x2, .int .i64 x3, .int .i64 x4] 89) = w4 at Kb Kr Kx  B ⊢
  clear bbc0 bbc1 brc0 brc1 brc2
  clear hw hgx
  obtain ⟨bbc0, bbc1⟩ := twob Kb.out
  obtain ⟨brc0, brc1, brc2⟩ := three Kr.out
  obtain ⟨bxc0, bxc1, bxc2, bxc3⟩ := four Kx.out
  clear bbc0 bbc1 brc0 brc1 brc2 bxc0 bxc1 bxc2 bxc3
  obtain ⟨bbc0, bbc1⟩ := twob Kb.out
  obtain ⟨brc0, brc1, brc2⟩ := three Kr.out
  obtain ⟨bxc0, bxc1, bxc2, bxc3⟩ := four Kx.out
  have fzx := fun q => Kx.out.frozen q
  replace Kx := Lib.hid (show Blk (w4.setCell ⟨gx, 3, none⟩ (.int .i64 Q)) (gx) 89 #[.int .i64 wi, .int .i64 x2, .int .i64 x3, .int .i64 Q] from Kx.out.set_ 3 _)
  replace Kb := Lib.hid (show Blk (w4.setCell ⟨gx, 3, none⟩ (.int .i64 Q)) (G) _ _ from Kb.out.far (p := ⟨gx, 3, none⟩) (by have := Nbx.out; show G ≠ gx; omega) (.int .i64 Q))
  replace Kr := Lib.hid (show Blk (w4.setCell ⟨gx, 3, none⟩ (.int .i64 Q)) (G + 1) _ _ from Kr.out.far (p := ⟨gx, 3, none⟩) (by have := Nrx.out; show G + 1 ≠ gx; omega) (.int .i64 Q))
  replace B := Lib.hid (show Below w.heap.size w (w4.setCell ⟨gx, 3, none⟩ (.int .i64 Q)) from B.out.setCell (p := ⟨gx, 3, none⟩) Lx.out (.int .i64 Q))
  go_upto_region 7 with (fail)
  generalize hw : (w4.setCell ⟨gx, 3, none⟩ (.int .i64 Q)) = w5 at Kb Kr Kx B ⊢
  clear bbc0 bbc1 brc0 brc1 brc2 bxc0 bxc1 bxc2 bxc3 fzx
  clear hw
  obtain ⟨bbc0, bbc1⟩ := twob Kb.out
  obtain ⟨brc0, brc1, brc2⟩ := three Kr.out
  obtain ⟨bxc0, bxc1, bxc2, bxc3⟩ := four Kx.out
  have Qr := Lib.hid Kr.out.lt
  go_wp2_with fail
  refine (PU.out _ (HP.out.mono B.out)).mono ?_
  rintro e w6 ⟨⟨ap, cp, rfl, hr, hf⟩, hb⟩
  have Zp := Lib.hid hr
  have Fp := Lib.hid hf
  replace Kb := Lib.hid (Kb.out.below hb Kb.out.lt)
  replace Kr := Lib.hid (Kr.out.below hb Kr.out.lt)
  replace Kx := Lib.hid (Kx.out.below hb Kx.out.lt)
  replace B := Lib.hid (B.out.trans (hb.mono B.out.size))
  clear bbc0 bbc1 brc0 brc1 brc2 bxc0 bxc1 bxc2 bxc3
  clear hb hr hf
  obtain ⟨bbc0, bbc1⟩ := twob Kb.out
  obtain ⟨brc0, brc1, brc2⟩ := three Kr.out
  obtain ⟨bxc0, bxc1, bxc2, bxc3⟩ := four Kx.out
  have Rp := Zp
  clear Zp
  have Epr := Lib.hid (show ∀ p, ap = some p → p.block ≠ G + 1 from fun p hp => by have h1 := Fp.out p hp; have h2 := Qr.out; omega)
  clear Fp Qr
  clear bbc0 bbc1 brc0 brc1 brc2 bxc0 bxc1 bxc2 bxc3
  obtain ⟨bbc0, bbc1⟩ := twob Kb.out
  obtain ⟨brc0, brc1, brc2⟩ := three Kr.out
  obtain ⟨bxc0, bxc1, bxc2, bxc3⟩ := four Kx.out
  have fzr := fun q => Kr.out.frozen q
  go_wp2
  have K9 := Lib.hid (Kr.out.set3 (.int .i64 len) (.slice ap M cp) (.int .i64 0))
  have B9 := (((B.out.setCell (p := ⟨G + 1, 0, none⟩) (show w.heap.size ≤ G + 1 by have := HG.out; omega) (.int .i64 len)).setCell (p := ⟨G + 1, 1, none⟩) (show w.heap.size ≤ G + 1 by have := HG.out; omega) (.slice ap M cp)).setCell (p := ⟨G + 1, 2, none⟩) (show w.heap.size ≤ G + 1 by have := HG.out; omega) (.int .i64 0))
  simp only [set3] at K9
  have Sp := (RowsA.far (RowsA.far (RowsA.far Rp.out (p := ⟨G + 1, 0, none⟩) (Epr.out) (.int .i64 len)) (p := ⟨G + 1, 1, none⟩) (Epr.out) (.slice ap M cp)) (p := ⟨G + 1, 2, none⟩) (Epr.out) (.int .i64 0))
  generalize hw2 : (((w6.setCell ⟨G + 1, 0, none⟩ (.int .i64 len)).setCell ⟨G + 1, 1, none⟩ (.slice ap M cp)).setCell ⟨G + 1, 2, none⟩ (.int .i64 0)) = w9 at K9 B9 Sp ⊢
  clear bbc0 bbc1 brc0 brc1 brc2 bxc0 bxc1 bxc2 bxc3 fzr
  clear hw2
  obtain ⟨d0, d1, d2⟩ := three K9.out
  refine bodyPost_ret (by simp [results, Try.results32, go_sem, d0, d1, d2]; try rfl) rfl ?_
  exact ⟨⟨ap, cp, rfl, Sp⟩, B9⟩
set_option maxRecDepth 100000 in
set_option maxHeartbeats 2000000 in
theorem spendref_arg (len : Int) (a : Option Addr) (c : Nat) (l : List Rw) (lo hi : Int) (w : World) (hp : RwA w a l) (h : ¬ (OkP len l ∧ perB lo hi = true)) (hm : l.length ≤ 9223372036854775807) :
    Calls Try.prog 31 #[.agg #[.int .i64 len, .slice a l.length c], per lo hi] w fun e w' => e = .returned (.agg #[.int .i64 0, .slice none 0 0, .int .i64 1]) ∧ Below w.heap.size w w' := by
  have HP := Lib.hid hp
  obtain ⟨N, hN⟩ : ∃ N, l.length = N := ⟨_, rfl⟩
  by_cases ok : OkP len l
  · have C := Lib.hid (fun (X : World) (h : RwA X a l) => rvalidp_yes ok a c X h)
    simp only [hN] at C
    have PV := Lib.hid (fun X : World => pvalidref_any lo hi X)
    have e : perB lo hi = false := by
      cases q : perB lo hi
      · rfl
      · exact absurd ⟨ok, q⟩ h
    rw [e] at PV
    rw [hN]
    clear h ok hp hN hm e
    go_enter Try.func31, Try.ntmps31
    obtain ⟨G, hG⟩ : ∃ G, w.heap.size = G := ⟨_, rfl⟩
    have HG := Lib.hid hG
    have Kb := Lib.hid (show Blk (((w.alloc (.cells #[.int .i64 len, .slice a N c] 45)).alloc (.cells #[.int .i64 lo, .int .i64 hi] 26)).alloc (.cells #[.int .i64 0, .slice none 0 0, .int .i64 0] 51)) (G) 45 #[.int .i64 len, .slice a N c] from ((Blk.new' _ _ _ _ hG rfl).alloc _).alloc _)
    have Kp := Lib.hid (show Blk (((w.alloc (.cells #[.int .i64 len, .slice a N c] 45)).alloc (.cells #[.int .i64 lo, .int .i64 hi] 26)).alloc (.cells #[.int .i64 0, .slice none 0 0, .int .i64 0] 51)) (G + 1) 26 #[.int .i64 lo, .int .i64 hi] from (Blk.new' _ _ _ _ (by rw [World.size_alloc, hG]) rfl).alloc _)
    have Kr := Lib.hid (show Blk (((w.alloc (.cells #[.int .i64 len, .slice a N c] 45)).alloc (.cells #[.int .i64 lo, .int .i64 hi] 26)).alloc (.cells #[.int .i64 0, .slice none 0 0, .int .i64 0] 51)) (G + 1 + 1) 51 #[.int .i64 0, .slice none 0 0, .int .i64 0] from Blk.new' _ _ _ _ (by rw [World.size_alloc, World.size_alloc, hG]) rfl)
    have B := Lib.hid (show Below w.heap.size w (((w.alloc (.cells #[.int .i64 len, .slice a N c] 45)).alloc (.cells #[.int .i64 lo, .int .i64 hi] 26)).alloc (.cells #[.int .i64 0, .slice none 0 0, .int .i64 0] 51)) by (repeat' (first | (with_reducible exact Below.refl _ _) | (with_reducible assumption) | (with_reducible refine Below.alloc ?_ ?_ _) | (with_reducible refine Below.drew ?_) | (with_reducible refine below_dn ?_) | (with_reducible refine Below.setCell ?_ ?_ _) | (with_reducible exact Nat.le_refl _) | omega | (simp only [World.size_alloc, World.size_setCell, World.size_drew]; omega) | (simp; omega) | (simp; done))))
    go_upto_region 1 with (fail)
    try rw [hG]
    generalize hw0 : (((w.alloc (.cells #[.int .i64 len, .slice a N c] 45)).alloc (.cells #[.int .i64 lo, .int .i64 hi] 26)).alloc (.cells #[.int .i64 0, .slice none 0 0, .int .i64 0] 51)) = w0 at Kb Kp Kr B ⊢
    clear hw0 hG
    obtain ⟨bbc0, bbc1⟩ := twob Kb.out
    obtain ⟨bpc0, bpc1⟩ := twob Kp.out
    obtain ⟨brc0, brc1, brc2⟩ := three Kr.out
    go_wp2_with fail
    refine (C.out _ (HP.out.mono B.out)).mono ?_
    rintro e w1 ⟨rfl, hb⟩
    replace Kb := Lib.hid (Kb.out.below hb Kb.out.lt)
    replace Kp := Lib.hid (Kp.out.below hb Kp.out.lt)
    replace Kr := Lib.hid (Kr.out.below hb Kr.out.lt)
    replace B := Lib.hid (B.out.trans (hb.mono B.out.size))
    clear bbc0 bbc1 bpc0 bpc1 brc0 brc1 brc2
    clear hb
    obtain ⟨bbc0, bbc1⟩ := twob Kb.out
    obtain ⟨bpc0, bpc1⟩ := twob Kp.out
    obtain ⟨brc0, brc1, brc2⟩ := three Kr.out
    go_wp2_with fail
    refine (PV.out _).mono ?_
    rintro e w2 ⟨rfl, hb⟩
    replace Kb := Lib.hid (Kb.out.below hb Kb.out.lt)
    replace Kp := Lib.hid (Kp.out.below hb Kp.out.lt)
    replace Kr := Lib.hid (Kr.out.below hb Kr.out.lt)
    replace B := Lib.hid (B.out.trans (hb.mono B.out.size))
    clear bbc0 bbc1 bpc0 bpc1 brc0 brc1 brc2
    clear hb
    obtain ⟨bbc0, bbc1⟩ := twob Kb.out
    obtain ⟨bpc0, bpc1⟩ := twob Kp.out
    obtain ⟨brc0, brc1, brc2⟩ := three Kr.out
    clear bbc0 bbc1 bpc0 bpc1 brc0 brc1 brc2
    obtain ⟨bbc0, bbc1⟩ := twob Kb.out
    obtain ⟨bpc0, bpc1⟩ := twob Kp.out
    obtain ⟨brc0, brc1, brc2⟩ := three Kr.out
    have fzr := fun q => Kr.out.frozen q
    go_wp2
    have K9 := Lib.hid (Kr.out.set3 (.int .i64 0) (.slice none 0 0) (.int .i64 1))
    have B9 := (((B.out.setCell (p := ⟨G + 1 + 1, 0, none⟩) (show w.heap.size ≤ G + 1 + 1 by have := HG.out; omega) (.int .i64 0)).setCell (p := ⟨G + 1 + 1, 1, none⟩) (show w.heap.size ≤ G + 1 + 1 by have := HG.out; omega) (.slice none 0 0)).setCell (p := ⟨G + 1 + 1, 2, none⟩) (show w.heap.size ≤ G + 1 + 1 by have := HG.out; omega) (.int .i64 1))
    simp only [set3] at K9
    generalize hw2 : (((w2.setCell ⟨G + 1 + 1, 0, none⟩ (.int .i64 0)).setCell ⟨G + 1 + 1, 1, none⟩ (.slice none 0 0)).setCell ⟨G + 1 + 1, 2, none⟩ (.int .i64 1)) = w9 at K9 B9 ⊢
    clear bbc0 bbc1 bpc0 bpc1 brc0 brc1 brc2 fzr
    clear hw2
    obtain ⟨d0, d1, d2⟩ := three K9.out
    refine bodyPost_ret (by simp [results, Try.results31, go_sem, d0, d1, d2]; try rfl) rfl ?_
    exact ⟨rfl, B9⟩
  · have C := Lib.hid (fun (X : World) (h : RwA X a l) => rvalidp_no ok hm a c X h)
    simp only [hN] at C
    rw [hN]
    clear h ok hp hN hm
    go_enter Try.func31, Try.ntmps31
    obtain ⟨G, hG⟩ : ∃ G, w.heap.size = G := ⟨_, rfl⟩
    have HG := Lib.hid hG
    have Kb := Lib.hid (show Blk (((w.alloc (.cells #[.int .i64 len, .slice a N c] 45)).alloc (.cells #[.int .i64 lo, .int .i64 hi] 26)).alloc (.cells #[.int .i64 0, .slice none 0 0, .int .i64 0] 51)) (G) 45 #[.int .i64 len, .slice a N c] from ((Blk.new' _ _ _ _ hG rfl).alloc _).alloc _)
    have Kp := Lib.hid (show Blk (((w.alloc (.cells #[.int .i64 len, .slice a N c] 45)).alloc (.cells #[.int .i64 lo, .int .i64 hi] 26)).alloc (.cells #[.int .i64 0, .slice none 0 0, .int .i64 0] 51)) (G + 1) 26 #[.int .i64 lo, .int .i64 hi] from (Blk.new' _ _ _ _ (by rw [World.size_alloc, hG]) rfl).alloc _)
    have Kr := Lib.hid (show Blk (((w.alloc (.cells #[.int .i64 len, .slice a N c] 45)).alloc (.cells #[.int .i64 lo, .int .i64 hi] 26)).alloc (.cells #[.int .i64 0, .slice none 0 0, .int .i64 0] 51)) (G + 1 + 1) 51 #[.int .i64 0, .slice none 0 0, .int .i64 0] from Blk.new' _ _ _ _ (by rw [World.size_alloc, World.size_alloc, hG]) rfl)
    have B := Lib.hid (show Below w.heap.size w (((w.alloc (.cells #[.int .i64 len, .slice a N c] 45)).alloc (.cells #[.int .i64 lo, .int .i64 hi] 26)).alloc (.cells #[.int .i64 0, .slice none 0 0, .int .i64 0] 51)) by (repeat' (first | (with_reducible exact Below.refl _ _) | (with_reducible assumption) | (with_reducible refine Below.alloc ?_ ?_ _) | (with_reducible refine Below.drew ?_) | (with_reducible refine below_dn ?_) | (with_reducible refine Below.setCell ?_ ?_ _) | (with_reducible exact Nat.le_refl _) | omega | (simp only [World.size_alloc, World.size_setCell, World.size_drew]; omega) | (simp; omega) | (simp; done))))
    go_upto_region 1 with (fail)
    try rw [hG]
    generalize hw0 : (((w.alloc (.cells #[.int .i64 len, .slice a N c] 45)).alloc (.cells #[.int .i64 lo, .int .i64 hi] 26)).alloc (.cells #[.int .i64 0, .slice none 0 0, .int .i64 0] 51)) = w0 at Kb Kp Kr B ⊢
    clear hw0 hG
    obtain ⟨bbc0, bbc1⟩ := twob Kb.out
    obtain ⟨bpc0, bpc1⟩ := twob Kp.out
    obtain ⟨brc0, brc1, brc2⟩ := three Kr.out
    go_wp2_with fail
    refine (C.out _ (HP.out.mono B.out)).mono ?_
    rintro e w1 ⟨rfl, hb⟩
    replace Kb := Lib.hid (Kb.out.below hb Kb.out.lt)
    replace Kp := Lib.hid (Kp.out.below hb Kp.out.lt)
    replace Kr := Lib.hid (Kr.out.below hb Kr.out.lt)
    replace B := Lib.hid (B.out.trans (hb.mono B.out.size))
    clear bbc0 bbc1 bpc0 bpc1 brc0 brc1 brc2
    clear hb
    obtain ⟨bbc0, bbc1⟩ := twob Kb.out
    obtain ⟨bpc0, bpc1⟩ := twob Kp.out
    obtain ⟨brc0, brc1, brc2⟩ := three Kr.out
    clear bbc0 bbc1 bpc0 bpc1 brc0 brc1 brc2
    obtain ⟨bbc0, bbc1⟩ := twob Kb.out
    obtain ⟨bpc0, bpc1⟩ := twob Kp.out
    obtain ⟨brc0, brc1, brc2⟩ := three Kr.out
    have fzr := fun q => Kr.out.frozen q
    go_wp2
    have K9 := Lib.hid (Kr.out.set3 (.int .i64 0) (.slice none 0 0) (.int .i64 1))
    have B9 := (((B.out.setCell (p := ⟨G + 1 + 1, 0, none⟩) (show w.heap.size ≤ G + 1 + 1 by have := HG.out; omega) (.int .i64 0)).setCell (p := ⟨G + 1 + 1, 1, none⟩) (show w.heap.size ≤ G + 1 + 1 by have := HG.out; omega) (.slice none 0 0)).setCell (p := ⟨G + 1 + 1, 2, none⟩) (show w.heap.size ≤ G + 1 + 1 by have := HG.out; omega) (.int .i64 1))
    simp only [set3] at K9
    generalize hw2 : (((w1.setCell ⟨G + 1 + 1, 0, none⟩ (.int .i64 0)).setCell ⟨G + 1 + 1, 1, none⟩ (.slice none 0 0)).setCell ⟨G + 1 + 1, 2, none⟩ (.int .i64 1)) = w9 at K9 B9 ⊢
    clear bbc0 bbc1 bpc0 bpc1 brc0 brc1 brc2 fzr
    clear hw2
    obtain ⟨d0, d1, d2⟩ := three K9.out
    refine bodyPost_ret (by simp [results, Try.results31, go_sem, d0, d1, d2]; try rfl) rfl ?_
    exact ⟨rfl, B9⟩
set_option maxRecDepth 100000 in
set_option maxHeartbeats 2000000 in
theorem spendref_time (len : Int) (a : Option Addr) (c : Nat) (l : List Rw) (lo hi : Int) (w : World) (hp : RwA w a l) (ok : OkP len l) (p1 : perB lo hi = true) (h : lo / len ≠ hi / len) :
    Calls Try.prog 31 #[.agg #[.int .i64 len, .slice a l.length c], per lo hi] w fun e w' => e = .returned (.agg #[.int .i64 0, .slice none 0 0, .int .i64 9]) ∧ Below w.heap.size w w' := by
  have HP := Lib.hid hp
  have C := Lib.hid (fun (X : World) (h : RwA X a l) => rvalidp_yes ok a c X h)
  have PV := Lib.hid (fun X : World => pvalidref_any lo hi X)
  obtain ⟨g1, g2, g3⟩ := perB_yes p1
  obtain ⟨⟨l1, l2⟩, hm⟩ := ok.head
  have tl : lo.tdiv len = lo / len := Int.tdiv_eq_ediv_of_nonneg g1
  have th : hi.tdiv len = hi / len := Int.tdiv_eq_ediv_of_nonneg (by omega)
  obtain ⟨u1, u2⟩ := quo_bd (x := lo) (f := len) g1 (by omega)
  obtain ⟨u3, u4⟩ := quo_bd (x := hi) (f := len) (by omega) (by omega)
  have z0 : decide (len = 0) = false := decide_eq_false (by omega)
  have zl : len ≠ 0 := by omega
  have wl : IntKind.i64.wrap (lo / len) = lo / len := by rw [IntKind.wrap_i64]; omega
  have wh : IntKind.i64.wrap (hi / len) = hi / len := by rw [IntKind.wrap_i64]; omega
  have pw : winOk (lo / len) := ⟨u1, by omega⟩
  rw [p1] at PV
  obtain ⟨wi, hwi⟩ : ∃ x, lo / len = x := ⟨_, rfl⟩
  obtain ⟨vi, hvi⟩ : ∃ x, hi / len = x := ⟨_, rfl⟩
  rw [hwi] at tl wl pw h
  rw [hvi] at th wh h
  obtain ⟨N, hN⟩ : ∃ N, l.length = N := ⟨_, rfl⟩
  simp only [hN] at C
  rw [hN]
  have t9 : (vi != wi) = true := bne_iff_ne.2 (fun q => h q.symm)
  clear h hN
  clear hp ok p1 u1 u2 u3 u4 g1 g2 g3 l1 l2 hm pw hwi hvi
  go_enter Try.func31, Try.ntmps31
  obtain ⟨G, hG⟩ : ∃ G, w.heap.size = G := ⟨_, rfl⟩
  have HG := Lib.hid hG
  have Kb := Lib.hid (show Blk (((w.alloc (.cells #[.int .i64 len, .slice a N c] 45)).alloc (.cells #[.int .i64 lo, .int .i64 hi] 26)).alloc (.cells #[.int .i64 0, .slice none 0 0, .int .i64 0] 51)) (G) 45 #[.int .i64 len, .slice a N c] from ((Blk.new' _ _ _ _ hG rfl).alloc _).alloc _)
  have Kp := Lib.hid (show Blk (((w.alloc (.cells #[.int .i64 len, .slice a N c] 45)).alloc (.cells #[.int .i64 lo, .int .i64 hi] 26)).alloc (.cells #[.int .i64 0, .slice none 0 0, .int .i64 0] 51)) (G + 1) 26 #[.int .i64 lo, .int .i64 hi] from (Blk.new' _ _ _ _ (by rw [World.size_alloc, hG]) rfl).alloc _)
  have Kr := Lib.hid (show Blk (((w.alloc (.cells #[.int .i64 len, .slice a N c] 45)).alloc (.cells #[.int .i64 lo, .int .i64 hi] 26)).alloc (.cells #[.int .i64 0, .slice none 0 0, .int .i64 0] 51)) (G + 1 + 1) 51 #[.int .i64 0, .slice none 0 0, .int .i64 0] from Blk.new' _ _ _ _ (by rw [World.size_alloc, World.size_alloc, hG]) rfl)
  have B := Lib.hid (show Below w.heap.size w (((w.alloc (.cells #[.int .i64 len, .slice a N c] 45)).alloc (.cells #[.int .i64 lo, .int .i64 hi] 26)).alloc (.cells #[.int .i64 0, .slice none 0 0, .int .i64 0] 51)) by (repeat' (first | (with_reducible exact Below.refl _ _) | (with_reducible assumption) | (with_reducible refine Below.alloc ?_ ?_ _) | (with_reducible refine Below.drew ?_) | (with_reducible refine below_dn ?_) | (with_reducible refine Below.setCell ?_ ?_ _) | (with_reducible exact Nat.le_refl _) | omega | (simp only [World.size_alloc, World.size_setCell, World.size_drew]; omega) | (simp; omega) | (simp; done))))
  go_upto_region 1 with (fail)
  try rw [hG]
  generalize hw0 : (((w.alloc (.cells #[.int .i64 len, .slice a N c] 45)).alloc (.cells #[.int .i64 lo, .int .i64 hi] 26)).alloc (.cells #[.int .i64 0, .slice none 0 0, .int .i64 0] 51)) = w0 at Kb Kp Kr B ⊢
  clear hw0 hG
  obtain ⟨bbc0, bbc1⟩ := twob Kb.out
  obtain ⟨bpc0, bpc1⟩ := twob Kp.out
  obtain ⟨brc0, brc1, brc2⟩ := three Kr.out
  go_wp2_with fail
  refine (C.out _ (HP.out.mono B.out)).mono ?_
  rintro e w1 ⟨rfl, hb⟩
  replace Kb := Lib.hid (Kb.out.below hb Kb.out.lt)
  replace Kp := Lib.hid (Kp.out.below hb Kp.out.lt)
  replace Kr := Lib.hid (Kr.out.below hb Kr.out.lt)
  replace B := Lib.hid (B.out.trans (hb.mono B.out.size))
  clear bbc0 bbc1 bpc0 bpc1 brc0 brc1 brc2
  clear hb
  obtain ⟨bbc0, bbc1⟩ := twob Kb.out
  obtain ⟨bpc0, bpc1⟩ := twob Kp.out
  obtain ⟨brc0, brc1, brc2⟩ := three Kr.out
  go_wp2_with fail
  refine (PV.out _).mono ?_
  rintro e w2 ⟨rfl, hb⟩
  replace Kb := Lib.hid (Kb.out.below hb Kb.out.lt)
  replace Kp := Lib.hid (Kp.out.below hb Kp.out.lt)
  replace Kr := Lib.hid (Kr.out.below hb Kr.out.lt)
  replace B := Lib.hid (B.out.trans (hb.mono B.out.size))
  clear bbc0 bbc1 bpc0 bpc1 brc0 brc1 brc2
  clear hb
  obtain ⟨bbc0, bbc1⟩ := twob Kb.out
  obtain ⟨bpc0, bpc1⟩ := twob Kp.out
  obtain ⟨brc0, brc1, brc2⟩ := three Kr.out
  clear bbc0 bbc1 bpc0 bpc1 brc0 brc1 brc2
  obtain ⟨bbc0, bbc1⟩ := twob Kb.out
  obtain ⟨bpc0, bpc1⟩ := twob Kp.out
  obtain ⟨brc0, brc1, brc2⟩ := three Kr.out
  have fzr := fun q => Kr.out.frozen q
  go_wp2
  have K9 := Lib.hid (Kr.out.set3 (.int .i64 0) (.slice none 0 0) (.int .i64 9))
  have B9 := (((B.out.setCell (p := ⟨G + 1 + 1, 0, none⟩) (show w.heap.size ≤ G + 1 + 1 by have := HG.out; omega) (.int .i64 0)).setCell (p := ⟨G + 1 + 1, 1, none⟩) (show w.heap.size ≤ G + 1 + 1 by have := HG.out; omega) (.slice none 0 0)).setCell (p := ⟨G + 1 + 1, 2, none⟩) (show w.heap.size ≤ G + 1 + 1 by have := HG.out; omega) (.int .i64 9))
  simp only [set3] at K9
  generalize hw2 : (((w2.setCell ⟨G + 1 + 1, 0, none⟩ (.int .i64 0)).setCell ⟨G + 1 + 1, 1, none⟩ (.slice none 0 0)).setCell ⟨G + 1 + 1, 2, none⟩ (.int .i64 9)) = w9 at K9 B9 ⊢
  clear bbc0 bbc1 bpc0 bpc1 brc0 brc1 brc2 fzr
  clear hw2
  obtain ⟨d0, d1, d2⟩ := three K9.out
  refine bodyPost_ret (by simp [results, Try.results31, go_sem, d0, d1, d2]; try rfl) rfl ?_
  exact ⟨rfl, B9⟩
set_option maxRecDepth 100000 in
set_option maxHeartbeats 2000000 in
theorem spendref_none (len : Int) (a : Option Addr) (c : Nat) (l : List Rw) (lo hi : Int) (w : World) (hp : RwA w a l) (ok : OkP len l) (p1 : perB lo hi = true) (h : lo / len = hi / len) (hl : leftX (coinL l (lo / len)) = 0) :
    Calls Try.prog 31 #[.agg #[.int .i64 len, .slice a l.length c], per lo hi] w fun e w' => e = .returned (.agg #[.int .i64 0, .slice none 0 0, .int .i64 4]) ∧ Below w.heap.size w w' := by
  have HP := Lib.hid hp
  have C := Lib.hid (fun (X : World) (h : RwA X a l) => rvalidp_yes ok a c X h)
  have PV := Lib.hid (fun X : World => pvalidref_any lo hi X)
  obtain ⟨g1, g2, g3⟩ := perB_yes p1
  obtain ⟨⟨l1, l2⟩, hm⟩ := ok.head
  have tl : lo.tdiv len = lo / len := Int.tdiv_eq_ediv_of_nonneg g1
  have th : hi.tdiv len = hi / len := Int.tdiv_eq_ediv_of_nonneg (by omega)
  obtain ⟨u1, u2⟩ := quo_bd (x := lo) (f := len) g1 (by omega)
  obtain ⟨u3, u4⟩ := quo_bd (x := hi) (f := len) (by omega) (by omega)
  have z0 : decide (len = 0) = false := decide_eq_false (by omega)
  have zl : len ≠ 0 := by omega
  have wl : IntKind.i64.wrap (lo / len) = lo / len := by rw [IntKind.wrap_i64]; omega
  have wh : IntKind.i64.wrap (hi / len) = hi / len := by rw [IntKind.wrap_i64]; omega
  have pw : winOk (lo / len) := ⟨u1, by omega⟩
  rw [p1] at PV
  obtain ⟨wi, hwi⟩ : ∃ x, lo / len = x := ⟨_, rfl⟩
  obtain ⟨vi, hvi⟩ : ∃ x, hi / len = x := ⟨_, rfl⟩
  rw [hwi] at tl wl pw h hl
  rw [hvi] at th wh h
  have LT := Lib.hid (fun (X : World) (h : RwA X a l) => leftref_any len a c l wi X h ok)
  obtain ⟨F, hF⟩ : ∃ z, leftX (coinL l wi) = z := ⟨_, rfl⟩
  simp only [hF] at LT
  obtain ⟨N, hN⟩ : ∃ N, l.length = N := ⟨_, rfl⟩
  simp only [hN] at C LT
  rw [hN]
  obtain rfl : F = 0 := by rw [← hF, hl]
  subst h
  have t9 : (wi != wi) = false := by simp
  clear hl hN hF
  clear hp ok p1 u1 u2 u3 u4 g1 g2 g3 l1 l2 hm pw hwi hvi
  go_enter Try.func31, Try.ntmps31
  obtain ⟨G, hG⟩ : ∃ G, w.heap.size = G := ⟨_, rfl⟩
  have HG := Lib.hid hG
  have Kb := Lib.hid (show Blk (((w.alloc (.cells #[.int .i64 len, .slice a N c] 45)).alloc (.cells #[.int .i64 lo, .int .i64 hi] 26)).alloc (.cells #[.int .i64 0, .slice none 0 0, .int .i64 0] 51)) (G) 45 #[.int .i64 len, .slice a N c] from ((Blk.new' _ _ _ _ hG rfl).alloc _).alloc _)
  have Kp := Lib.hid (show Blk (((w.alloc (.cells #[.int .i64 len, .slice a N c] 45)).alloc (.cells #[.int .i64 lo, .int .i64 hi] 26)).alloc (.cells #[.int .i64 0, .slice none 0 0, .int .i64 0] 51)) (G + 1) 26 #[.int .i64 lo, .int .i64 hi] from (Blk.new' _ _ _ _ (by rw [World.size_alloc, hG]) rfl).alloc _)
  have Kr := Lib.hid (show Blk (((w.alloc (.cells #[.int .i64 len, .slice a N c] 45)).alloc (.cells #[.int .i64 lo, .int .i64 hi] 26)).alloc (.cells #[.int .i64 0, .slice none 0 0, .int .i64 0] 51)) (G + 1 + 1) 51 #[.int .i64 0, .slice none 0 0, .int .i64 0] from Blk.new' _ _ _ _ (by rw [World.size_alloc, World.size_alloc, hG]) rfl)
  have B := Lib.hid (show Below w.heap.size w (((w.alloc (.cells #[.int .i64 len, .slice a N c] 45)).alloc (.cells #[.int .i64 lo, .int .i64 hi] 26)).alloc (.cells #[.int .i64 0, .slice none 0 0, .int .i64 0] 51)) by (repeat' (first | (with_reducible exact Below.refl _ _) | (with_reducible assumption) | (with_reducible refine Below.alloc ?_ ?_ _) | (with_reducible refine Below.drew ?_) | (with_reducible refine below_dn ?_) | (with_reducible refine Below.setCell ?_ ?_ _) | (with_reducible exact Nat.le_refl _) | omega | (simp only [World.size_alloc, World.size_setCell, World.size_drew]; omega) | (simp; omega) | (simp; done))))
  go_upto_region 1 with (fail)
  try rw [hG]
  generalize hw0 : (((w.alloc (.cells #[.int .i64 len, .slice a N c] 45)).alloc (.cells #[.int .i64 lo, .int .i64 hi] 26)).alloc (.cells #[.int .i64 0, .slice none 0 0, .int .i64 0] 51)) = w0 at Kb Kp Kr B ⊢
  clear hw0 hG
  obtain ⟨bbc0, bbc1⟩ := twob Kb.out
  obtain ⟨bpc0, bpc1⟩ := twob Kp.out
  obtain ⟨brc0, brc1, brc2⟩ := three Kr.out
  go_wp2_with fail
  refine (C.out _ (HP.out.mono B.out)).mono ?_
  rintro e w1 ⟨rfl, hb⟩
  replace Kb := Lib.hid (Kb.out.below hb Kb.out.lt)
  replace Kp := Lib.hid (Kp.out.below hb Kp.out.lt)
  replace Kr := Lib.hid (Kr.out.below hb Kr.out.lt)
  replace B := Lib.hid (B.out.trans (hb.mono B.out.size))
  clear bbc0 bbc1 bpc0 bpc1 brc0 brc1 brc2
  clear hb
  obtain ⟨bbc0, bbc1⟩ := twob Kb.out
  obtain ⟨bpc0, bpc1⟩ := twob Kp.out
  obtain ⟨brc0, brc1, brc2⟩ := three Kr.out
  go_wp2_with fail
  refine (PV.out _).mono ?_
  rintro e w2 ⟨rfl, hb⟩
  replace Kb := Lib.hid (Kb.out.below hb Kb.out.lt)
  replace Kp := Lib.hid (Kp.out.below hb Kp.out.lt)
  replace Kr := Lib.hid (Kr.out.below hb Kr.out.lt)
  replace B := Lib.hid (B.out.trans (hb.mono B.out.size))
  clear bbc0 bbc1 bpc0 bpc1 brc0 brc1 brc2
  clear hb
  obtain ⟨bbc0, bbc1⟩ := twob Kb.out
  obtain ⟨bpc0, bpc1⟩ := twob Kp.out
  obtain ⟨brc0, brc1, brc2⟩ := three Kr.out
  go_wp2_with fail
  refine (LT.out _ (HP.out.mono B.out)).mono ?_
  rintro e w3 ⟨rfl, hb⟩
  replace Kb := Lib.hid (Kb.out.below hb Kb.out.lt)
  replace Kp := Lib.hid (Kp.out.below hb Kp.out.lt)
  replace Kr := Lib.hid (Kr.out.below hb Kr.out.lt)
  replace B := Lib.hid (B.out.trans (hb.mono B.out.size))
  clear bbc0 bbc1 bpc0 bpc1 brc0 brc1 brc2
  clear hb
  obtain ⟨bbc0, bbc1⟩ := twob Kb.out
  obtain ⟨bpc0, bpc1⟩ := twob Kp.out
  obtain ⟨brc0, brc1, brc2⟩ := three Kr.out
  clear bbc0 bbc1 bpc0 bpc1 brc0 brc1 brc2
  obtain ⟨bbc0, bbc1⟩ := twob Kb.out
  obtain ⟨bpc0, bpc1⟩ := twob Kp.out
  obtain ⟨brc0, brc1, brc2⟩ := three Kr.out
  have fzr := fun q => Kr.out.frozen q
  go_wp2
  have K9 := Lib.hid (Kr.out.set3 (.int .i64 0) (.slice none 0 0) (.int .i64 4))
  have B9 := (((B.out.setCell (p := ⟨G + 1 + 1, 0, none⟩) (show w.heap.size ≤ G + 1 + 1 by have := HG.out; omega) (.int .i64 0)).setCell (p := ⟨G + 1 + 1, 1, none⟩) (show w.heap.size ≤ G + 1 + 1 by have := HG.out; omega) (.slice none 0 0)).setCell (p := ⟨G + 1 + 1, 2, none⟩) (show w.heap.size ≤ G + 1 + 1 by have := HG.out; omega) (.int .i64 4))
  simp only [set3] at K9
  generalize hw2 : (((w3.setCell ⟨G + 1 + 1, 0, none⟩ (.int .i64 0)).setCell ⟨G + 1 + 1, 1, none⟩ (.slice none 0 0)).setCell ⟨G + 1 + 1, 2, none⟩ (.int .i64 4)) = w9 at K9 B9 ⊢
  clear bbc0 bbc1 bpc0 bpc1 brc0 brc1 brc2 fzr
  clear hw2
  obtain ⟨d0, d1, d2⟩ := three K9.out
  refine bodyPost_ret (by simp [results, Try.results31, go_sem, d0, d1, d2]; try rfl) rfl ?_
  exact ⟨rfl, B9⟩
set_option maxRecDepth 100000 in
set_option maxHeartbeats 2000000 in
theorem spendref_ok (len : Int) (a : Option Addr) (c : Nat) (l : List Rw) (lo hi : Int) (w : World) (hp : RwA w a l) (ok : OkP len l) (p1 : perB lo hi = true) (h : lo / len = hi / len) (hl : leftX (coinL l (lo / len)) ≠ 0) :
    Calls Try.prog 31 #[.agg #[.int .i64 len, .slice a l.length c], per lo hi] w fun e w' => (∃ a' c', e = .returned (.agg #[.int .i64 len, .slice a' (spendL l (lo / len)).length c', .int .i64 0]) ∧ RwA w' a' (spendL l (lo / len))) ∧ Below w.heap.size w w' := by
  have HP := Lib.hid hp
  have C := Lib.hid (fun (X : World) (h : RwA X a l) => rvalidp_yes ok a c X h)
  have PV := Lib.hid (fun X : World => pvalidref_any lo hi X)
  obtain ⟨g1, g2, g3⟩ := perB_yes p1
  obtain ⟨⟨l1, l2⟩, hm⟩ := ok.head
  have tl : lo.tdiv len = lo / len := Int.tdiv_eq_ediv_of_nonneg g1
  have th : hi.tdiv len = hi / len := Int.tdiv_eq_ediv_of_nonneg (by omega)
  obtain ⟨u1, u2⟩ := quo_bd (x := lo) (f := len) g1 (by omega)
  obtain ⟨u3, u4⟩ := quo_bd (x := hi) (f := len) (by omega) (by omega)
  have z0 : decide (len = 0) = false := decide_eq_false (by omega)
  have zl : len ≠ 0 := by omega
  have wl : IntKind.i64.wrap (lo / len) = lo / len := by rw [IntKind.wrap_i64]; omega
  have wh : IntKind.i64.wrap (hi / len) = hi / len := by rw [IntKind.wrap_i64]; omega
  have pw : winOk (lo / len) := ⟨u1, by omega⟩
  rw [p1] at PV
  obtain ⟨wi, hwi⟩ : ∃ x, lo / len = x := ⟨_, rfl⟩
  obtain ⟨vi, hvi⟩ : ∃ x, hi / len = x := ⟨_, rfl⟩
  rw [hwi] at tl wl pw h hl
  rw [hvi] at th wh h
  rw [hwi]
  have LT := Lib.hid (fun (X : World) (h : RwA X a l) => leftref_any len a c l wi X h ok)
  obtain ⟨F, hF⟩ : ∃ z, leftX (coinL l wi) = z := ⟨_, rfl⟩
  simp only [hF] at LT
  have CO := Lib.hid (fun (X : World) (h : RwA X a l) => coinref_any len a c l wi X h ok.ord (by have := ok.head.2; omega))
  have ck := coinL_ok ok wi
  obtain ⟨x2, x3, x4, hx⟩ := coinL_is l wi
  obtain ⟨hh, hhh⟩ : ∃ z, hasC (cW wi) l = z := ⟨_, rfl⟩
  simp only [hx, hhh, encR] at CO
  rw [hx] at ck
  simp only at ck
  obtain ⟨⟨k1, k2⟩, ⟨k3, k4⟩, k5, k6⟩ := ck
  obtain ⟨N, hN⟩ : ∃ N, l.length = N := ⟨_, rfl⟩
  simp only [hN] at C LT CO
  have e : spendL l wi = withL l (wi, x2, x3 + 1, x4) := by
    unfold spendL
    rw [hx]
  have PU := Lib.hid (fun (X : World) (h : RwA X a l) => set_any len a c l (wi, x2, x3 + 1, x4) X h ok.ord (by omega))
  rw [put_with (by right; simp; omega)] at PU
  simp only [encR] at PU
  rw [e]
  rw [hF] at hl
  have wQ : IntKind.i64.wrap (x3 + 1) = x3 + 1 := by rw [IntKind.wrap_i64]; omega
  obtain ⟨Q, hQ⟩ : ∃ z, x3 + 1 = z := ⟨_, rfl⟩
  rw [hQ] at wQ
  have wQ2 : IntKind.i64.wrap Q = Q := wQ
  obtain ⟨L, hL⟩ : ∃ z, withL l (wi, x2, x3 + 1, x4) = z := ⟨_, rfl⟩
  obtain ⟨M, hM⟩ : ∃ M, L.length = M := ⟨_, rfl⟩
  simp only [hL, hN, hM] at PU
  simp only [hQ] at PU
  rw [hN, hL, hM]
  subst h
  have t9 : (wi != wi) = false := by simp
  have s1 : (F == 0) = false := beq_eq_false_iff_ne.2 hl
  clear hl hx hhh hN hF hL hM e k1 k2 k3 k4 k5 k6
  clear hp ok p1 u1 u2 u3 u4 g1 g2 g3 l1 l2 hm pw hwi hvi
  go_enter Try.func31, Try.ntmps31
  obtain ⟨G, hG⟩ : ∃ G, w.heap.size = G := ⟨_, rfl⟩
  have HG := Lib.hid hG
  have Kb := Lib.hid (show Blk (((w.alloc (.cells #[.int .i64 len, .slice a N c] 45)).alloc (.cells #[.int .i64 lo, .int .i64 hi] 26)).alloc (.cells #[.int .i64 0, .slice none 0 0, .int .i64 0] 51)) (G) 45 #[.int .i64 len, .slice a N c] from ((Blk.new' _ _ _ _ hG rfl).alloc _).alloc _)
  have Kp := Lib.hid (show Blk (((w.alloc (.cells #[.int .i64 len, .slice a N c] 45)).alloc (.cells #[.int .i64 lo, .int .i64 hi] 26)).alloc (.cells #[.int .i64 0, .slice none 0 0, .int .i64 0] 51)) (G + 1) 26 #[.int .i64 lo, .int .i64 hi] from (Blk.new' _ _ _ _ (by rw [World.size_alloc, hG]) rfl).alloc _)
  have Kr := Lib.hid (show Blk (((w.alloc (.cells #[.int .i64 len, .slice a N c] 45)).alloc (.cells #[.int .i64 lo, .int .i64 hi] 26)).alloc (.cells #[.int .i64 0, .slice none 0 0, .int .i64 0] 51)) (G + 1 + 1) 51 #[.int .i64 0, .slice none 0 0, .int .i64 0] from Blk.new' _ _ _ _ (by rw [World.size_alloc, World.size_alloc, hG]) rfl)
  have B := Lib.hid (show Below w.heap.size w (((w.alloc (.cells #[.int .i64 len, .slice a N c] 45)).alloc (.cells #[.int .i64 lo, .int .i64 hi] 26)).alloc (.cells #[.int .i64 0, .slice none 0 0, .int .i64 0] 51)) by (repeat' (first | (with_reducible exact Below.refl _ _) | (with_reducible assumption) | (with_reducible refine Below.alloc ?_ ?_ _) | (with_reducible refine Below.drew ?_) | (with_reducible refine below_dn ?_) | (with_reducible refine Below.setCell ?_ ?_ _) | (with_reducible exact Nat.le_refl _) | omega | (simp only [World.size_alloc, World.size_setCell, World.size_drew]; omega) | (simp; omega) | (simp; done))))
  go_upto_region 1 with (fail)
  try rw [hG]
  generalize hw0 : (((w.alloc (.cells #[.int .i64 len, .slice a N c] 45)).alloc (.cells #[.int .i64 lo, .int .i64 hi] 26)).alloc (.cells #[.int .i64 0, .slice none 0 0, .int .i64 0] 51)) = w0 at Kb Kp Kr B ⊢
  clear hw0 hG
  obtain ⟨bbc0, bbc1⟩ := twob Kb.out
  obtain ⟨bpc0, bpc1⟩ := twob Kp.out
  obtain ⟨brc0, brc1, brc2⟩ := three Kr.out
  go_wp2_with fail
  refine (C.out _ (HP.out.mono B.out)).mono ?_
  rintro e w1 ⟨rfl, hb⟩
  replace Kb := Lib.hid (Kb.out.below hb Kb.out.lt)
  replace Kp := Lib.hid (Kp.out.below hb Kp.out.lt)
  replace Kr := Lib.hid (Kr.out.below hb Kr.out.lt)
  replace B := Lib.hid (B.out.trans (hb.mono B.out.size))
  clear bbc0 bbc1 bpc0 bpc1 brc0 brc1 brc2
  clear hb
  obtain ⟨bbc0, bbc1⟩ := twob Kb.out
  obtain ⟨bpc0, bpc1⟩ := twob Kp.out
  obtain ⟨brc0, brc1, brc2⟩ := three Kr.out
  go_wp2_with fail
  refine (PV.out _).mono ?_
  rintro e w2 ⟨rfl, hb⟩
  replace Kb := Lib.hid (Kb.out.below hb Kb.out.lt)
  replace Kp := Lib.hid (Kp.out.below hb Kp.out.lt)
  replace Kr := Lib.hid (Kr.out.below hb Kr.out.lt)
  replace B := Lib.hid (B.out.trans (hb.mono B.out.size))
  clear bbc0 bbc1 bpc0 bpc1 brc0 brc1 brc2
  clear hb
  obtain ⟨bbc0, bbc1⟩ := twob Kb.out
  obtain ⟨bpc0, bpc1⟩ := twob Kp.out
  obtain ⟨brc0, brc1, brc2⟩ := three Kr.out
  go_wp2_with fail
  refine (LT.out _ (HP.out.mono B.out)).mono ?_
  rintro e w3 ⟨rfl, hb⟩
  replace Kb := Lib.hid (Kb.out.below hb Kb.out.lt)
  replace Kp := Lib.hid (Kp.out.below hb Kp.out.lt)
  replace Kr := Lib.hid (Kr.out.below hb Kr.out.lt)
  replace B := Lib.hid (B.out.trans (hb.mono B.out.size))
  clear bbc0 bbc1 bpc0 bpc1 brc0 brc1 brc2
  clear hb
  obtain ⟨bbc0, bbc1⟩ := twob Kb.out
  obtain ⟨bpc0, bpc1⟩ := twob Kp.out
  obtain ⟨brc0, brc1, brc2⟩ := three Kr.out
  go_wp2_with fail
  refine (CO.out _ (HP.out.mono B.out)).mono ?_
  rintro e w4 ⟨rfl, hb⟩
  replace Kb := Lib.hid (Kb.out.below hb Kb.out.lt)
  replace Kp := Lib.hid (Kp.out.below hb Kp.out.lt)
  replace Kr := Lib.hid (Kr.out.below hb Kr.out.lt)
  replace B := Lib.hid (B.out.trans (hb.mono B.out.size))
  clear bbc0 bbc1 bpc0 bpc1 brc0 brc1 brc2
  clear hb
  obtain ⟨bbc0, bbc1⟩ := twob Kb.out
  obtain ⟨bpc0, bpc1⟩ := twob Kp.out
  obtain ⟨brc0, brc1, brc2⟩ := three Kr.out
  obtain ⟨gx, hgx⟩ : ∃ G, w4.heap.size = G := ⟨_, rfl⟩
  have Kx := Lib.hid (show Blk (w4.alloc (.cells #[.int .i64 wi, .int .i64 x2, .int .i64 x3, .int .i64 x4] 89)) gx 89 #[.int .i64 wi, .int .i64 x2, .int .i64 x3, .int .i64 x4] from Blk.new' w4 _ _ _ hgx rfl)
  have Nbx := Lib.hid (show G < gx from by rw [← hgx]; exact Kb.out.lt)
  replace Kb := Lib.hid (Kb.out.alloc (.cells #[.int .i64 wi, .int .i64 x2, .int .i64 x3, .int .i64 x4] 89))
  have Npx := Lib.hid (show G + 1 < gx from by rw [← hgx]; exact Kp.out.lt)
  replace Kp := Lib.hid (Kp.out.alloc (.cells #[.int .i64 wi, .int .i64 x2, .int .i64 x3, .int .i64 x4] 89))
  have Nrx := Lib.hid (show G + 1 + 1 < gx from by rw [← hgx]; exact Kr.out.lt)
  replace Kr := Lib.hid (Kr.out.alloc (.cells #[.int .i64 wi, .int .i64 x2, .int .i64 x3, .int .i64 x4] 89))
  have Lx := Lib.hid (show w.heap.size ≤ gx from by rw [← hgx]; exact B.out.size)
  replace B := Lib.hid (B.out.alloc B.out.size (.cells #[.int .i64 wi, .int .i64 x2, .int .i64 x3, .int .i64 x4] 89))
  go_upto_region 9 with (fail)
  try rw [hgx]
  generalize hw : w4.alloc (.cells #[.int .i64 wi, .int .i64 x2, .int .i64 x3, .int .i64 x4] 89) = w5 at Kb Kp Kr Kx  B ⊢
  clear bbc0 bbc1 bpc0 bpc1 brc0 brc1 brc2
  clear hw hgx
  obtain ⟨bbc0, bbc1⟩ := twob Kb.out
  obtain ⟨bpc0, bpc1⟩ := twob Kp.out
  obtain ⟨brc0, brc1, brc2⟩ := three Kr.out
  obtain ⟨bxc0, bxc1, bxc2, bxc3⟩ := four Kx.out
  clear bbc0 bbc1 bpc0 bpc1 brc0 brc1 brc2 bxc0 bxc1 bxc2 bxc3
  obtain ⟨bbc0, bbc1⟩ := twob Kb.out
  obtain ⟨bpc0, bpc1⟩ := twob Kp.out
  obtain ⟨brc0, brc1, brc2⟩ := three Kr.out
  obtain ⟨bxc0, bxc1, bxc2, bxc3⟩ := four Kx.out
  have fzx := fun q => Kx.out.frozen q
  replace Kx := Lib.hid (show Blk (w5.setCell ⟨gx, 2, none⟩ (.int .i64 Q)) (gx) 89 #[.int .i64 wi, .int .i64 x2, .int .i64 Q, .int .i64 x4] from Kx.out.set_ 2 _)
  replace Kb := Lib.hid (show Blk (w5.setCell ⟨gx, 2, none⟩ (.int .i64 Q)) (G) _ _ from Kb.out.far (p := ⟨gx, 2, none⟩) (by have := Nbx.out; show G ≠ gx; omega) (.int .i64 Q))
  replace Kp := Lib.hid (show Blk (w5.setCell ⟨gx, 2, none⟩ (.int .i64 Q)) (G + 1) _ _ from Kp.out.far (p := ⟨gx, 2, none⟩) (by have := Npx.out; show G + 1 ≠ gx; omega) (.int .i64 Q))
  replace Kr := Lib.hid (show Blk (w5.setCell ⟨gx, 2, none⟩ (.int .i64 Q)) (G + 1 + 1) _ _ from Kr.out.far (p := ⟨gx, 2, none⟩) (by have := Nrx.out; show G + 1 + 1 ≠ gx; omega) (.int .i64 Q))
  replace B := Lib.hid (show Below w.heap.size w (w5.setCell ⟨gx, 2, none⟩ (.int .i64 Q)) from B.out.setCell (p := ⟨gx, 2, none⟩) Lx.out (.int .i64 Q))
  go_upto_region 10 with (fail)
  generalize hw : (w5.setCell ⟨gx, 2, none⟩ (.int .i64 Q)) = w6 at Kb Kp Kr Kx B ⊢
  clear bbc0 bbc1 bpc0 bpc1 brc0 brc1 brc2 bxc0 bxc1 bxc2 bxc3 fzx
  clear hw
  obtain ⟨bbc0, bbc1⟩ := twob Kb.out
  obtain ⟨bpc0, bpc1⟩ := twob Kp.out
  obtain ⟨brc0, brc1, brc2⟩ := three Kr.out
  obtain ⟨bxc0, bxc1, bxc2, bxc3⟩ := four Kx.out
  have Qr := Lib.hid Kr.out.lt
  go_wp2_with fail
  refine (PU.out _ (HP.out.mono B.out)).mono ?_
  rintro e w7 ⟨⟨ap, cp, rfl, hr, hf⟩, hb⟩
  have Zp := Lib.hid hr
  have Fp := Lib.hid hf
  replace Kb := Lib.hid (Kb.out.below hb Kb.out.lt)
  replace Kp := Lib.hid (Kp.out.below hb Kp.out.lt)
  replace Kr := Lib.hid (Kr.out.below hb Kr.out.lt)
  replace Kx := Lib.hid (Kx.out.below hb Kx.out.lt)
  replace B := Lib.hid (B.out.trans (hb.mono B.out.size))
  clear bbc0 bbc1 bpc0 bpc1 brc0 brc1 brc2 bxc0 bxc1 bxc2 bxc3
  clear hb hr hf
  obtain ⟨bbc0, bbc1⟩ := twob Kb.out
  obtain ⟨bpc0, bpc1⟩ := twob Kp.out
  obtain ⟨brc0, brc1, brc2⟩ := three Kr.out
  obtain ⟨bxc0, bxc1, bxc2, bxc3⟩ := four Kx.out
  have Rp := Zp
  clear Zp
  have Epr := Lib.hid (show ∀ p, ap = some p → p.block ≠ G + 1 + 1 from fun p hp => by have h1 := Fp.out p hp; have h2 := Qr.out; omega)
  clear Fp Qr
  clear bbc0 bbc1 bpc0 bpc1 brc0 brc1 brc2 bxc0 bxc1 bxc2 bxc3
  obtain ⟨bbc0, bbc1⟩ := twob Kb.out
  obtain ⟨bpc0, bpc1⟩ := twob Kp.out
  obtain ⟨brc0, brc1, brc2⟩ := three Kr.out
  obtain ⟨bxc0, bxc1, bxc2, bxc3⟩ := four Kx.out
  have fzr := fun q => Kr.out.frozen q
  go_wp2
  have K9 := Lib.hid (Kr.out.set3 (.int .i64 len) (.slice ap M cp) (.int .i64 0))
  have B9 := (((B.out.setCell (p := ⟨G + 1 + 1, 0, none⟩) (show w.heap.size ≤ G + 1 + 1 by have := HG.out; omega) (.int .i64 len)).setCell (p := ⟨G + 1 + 1, 1, none⟩) (show w.heap.size ≤ G + 1 + 1 by have := HG.out; omega) (.slice ap M cp)).setCell (p := ⟨G + 1 + 1, 2, none⟩) (show w.heap.size ≤ G + 1 + 1 by have := HG.out; omega) (.int .i64 0))
  simp only [set3] at K9
  have Sp := (RowsA.far (RowsA.far (RowsA.far Rp.out (p := ⟨G + 1 + 1, 0, none⟩) (Epr.out) (.int .i64 len)) (p := ⟨G + 1 + 1, 1, none⟩) (Epr.out) (.slice ap M cp)) (p := ⟨G + 1 + 1, 2, none⟩) (Epr.out) (.int .i64 0))
  generalize hw2 : (((w7.setCell ⟨G + 1 + 1, 0, none⟩ (.int .i64 len)).setCell ⟨G + 1 + 1, 1, none⟩ (.slice ap M cp)).setCell ⟨G + 1 + 1, 2, none⟩ (.int .i64 0)) = w9 at K9 B9 Sp ⊢
  clear bbc0 bbc1 bpc0 bpc1 brc0 brc1 brc2 bxc0 bxc1 bxc2 bxc3 fzr
  clear hw2
  obtain ⟨d0, d1, d2⟩ := three K9.out
  refine bodyPost_ret (by simp [results, Try.results31, go_sem, d0, d1, d2]; try rfl) rfl ?_
  exact ⟨⟨ap, cp, rfl, Sp⟩, B9⟩
end
section
open Go.RowKit Go.Sort
theorem withL_len (l : List Rw) (x : Rw) : (withL l x).length ≤ l.length + 1 := by
  unfold withL
  split
  · rw [List.length_set]; omega
  · split
    · omega
    · rw [insL_len _ _ _ (posC_le _ _)]; exact Nat.le_refl _
/-- The program's function p and the reference's q give the same, whatever that is. -/
def BothP (p q : FuncId) (args : Array Value) (a : Option Addr) (l : List Rw) : Prop :=
  ∃ (l1 : Int) (L : List Rw) (e1 : Int), L.length ≤ 9223372036854775807 ∧
    (∀ X, RwA X a l → Calls Try.prog p args X fun e w' => (∃ a' c', e = .returned (.tuple #[.agg #[.int .i64 l1, .slice a' L.length c'], .int .i64 e1]) ∧ RwA w' a' L) ∧ Below X.heap.size X w') ∧
    ∀ X, RwA X a l → Calls Try.prog q args X fun e w' => (∃ a' c', e = .returned (.agg #[.int .i64 l1, .slice a' L.length c', .int .i64 e1]) ∧ RwA w' a' L) ∧ Below X.heap.size X w'
theorem BothP.err {p q : FuncId} {args : Array Value} {a : Option Addr} {l : List Rw} (n : Int) (h1 : ∀ X, RwA X a l → Calls Try.prog p args X fun e w' => e = .returned (.tuple #[.agg #[.int .i64 0, .slice none 0 0], .int .i64 n]) ∧ Below X.heap.size X w')
    (h2 : ∀ X, RwA X a l → Calls Try.prog q args X fun e w' => e = .returned (.agg #[.int .i64 0, .slice none 0 0, .int .i64 n]) ∧ Below X.heap.size X w') : BothP p q args a l :=
  ⟨0, [], n, by simp, fun X hX => (h1 X hX).mono fun e w' ⟨he, hb⟩ => ⟨⟨none, 0, he, RowsA.nil _ _ _ _⟩, hb⟩, fun X hX => (h2 X hX).mono fun e w' ⟨he, hb⟩ => ⟨⟨none, 0, he, RowsA.nil _ _ _ _⟩, hb⟩⟩
set_option maxRecDepth 100000 in
set_option maxHeartbeats 1000000 in
theorem leftp_no (len : Int) (a : Option Addr) (c : Nat) (l : List Rw) (wi : Int) (w : World) (hp : RwA w a l) (no : ¬ OkP len l) (hm : l.length ≤ 9223372036854775807) :
    Calls Try.prog 37 #[.agg #[.int .i64 len, .slice a l.length c], .int .i64 wi] w fun e w' => e = .returned (.int .i64 0) ∧ Below w.heap.size w w' := by
  have HP := Lib.hid hp
  have C := Lib.hid (fun (X : World) (h : RwA X a l) => validp_no no hm a c X h)
  obtain ⟨N, hN⟩ : ∃ N, l.length = N := ⟨_, rfl⟩
  simp only [hN] at C
  rw [hN]
  clear hp hN no hm
  go_enter Try.func37, Try.ntmps37
  obtain ⟨G, hG⟩ : ∃ G, w.heap.size = G := ⟨_, rfl⟩
  have HG := Lib.hid hG
  have Kb := Lib.hid (show Blk (w.alloc (.cells #[.int .i64 len, .slice a N c] 45)) (G) 45 #[.int .i64 len, .slice a N c] from Blk.new' _ _ _ _ hG rfl)
  have B := Lib.hid (show Below w.heap.size w (w.alloc (.cells #[.int .i64 len, .slice a N c] 45)) by (repeat' (first | (with_reducible exact Below.refl _ _) | (with_reducible assumption) | (with_reducible refine Below.alloc ?_ ?_ _) | (with_reducible refine Below.drew ?_) | (with_reducible refine below_dn ?_) | (with_reducible refine Below.setCell ?_ ?_ _) | (with_reducible exact Nat.le_refl _) | omega | (simp only [World.size_alloc, World.size_setCell, World.size_drew]; omega) | (simp; omega) | (simp; done))))
  go_upto_region 1 with (fail)
  try rw [hG]
  generalize hw0 : (w.alloc (.cells #[.int .i64 len, .slice a N c] 45)) = w0 at Kb B ⊢
  clear hw0 hG
  obtain ⟨bbc0, bbc1⟩ := twob Kb.out
  go_wp2_with fail
  refine (C.out _ (HP.out.mono B.out)).mono ?_
  rintro e w1 ⟨rfl, hb⟩
  replace Kb := Lib.hid (Kb.out.below hb Kb.out.lt)
  replace B := Lib.hid (B.out.trans (hb.mono B.out.size))
  clear bbc0 bbc1
  clear hb
  obtain ⟨bbc0, bbc1⟩ := twob Kb.out
  go_wp2
  go_ret
  exact ⟨rfl, B.out⟩
set_option maxRecDepth 100000 in
set_option maxHeartbeats 1000000 in
theorem backp_no (len : Int) (a : Option Addr) (c : Nat) (l : List Rw) (wi : Int) (w : World) (hp : RwA w a l) (no : ¬ OkP len l) (hm : l.length ≤ 9223372036854775807) :
    Calls Try.prog 39 #[.agg #[.int .i64 len, .slice a l.length c], .int .i64 wi] w fun e w' => e = .returned (.int .i64 0) ∧ Below w.heap.size w w' := by
  have HP := Lib.hid hp
  have C := Lib.hid (fun (X : World) (h : RwA X a l) => validp_no no hm a c X h)
  obtain ⟨N, hN⟩ : ∃ N, l.length = N := ⟨_, rfl⟩
  simp only [hN] at C
  rw [hN]
  clear hp hN no hm
  go_enter Try.func39, Try.ntmps39
  obtain ⟨G, hG⟩ : ∃ G, w.heap.size = G := ⟨_, rfl⟩
  have HG := Lib.hid hG
  have Kb := Lib.hid (show Blk (w.alloc (.cells #[.int .i64 len, .slice a N c] 45)) (G) 45 #[.int .i64 len, .slice a N c] from Blk.new' _ _ _ _ hG rfl)
  have B := Lib.hid (show Below w.heap.size w (w.alloc (.cells #[.int .i64 len, .slice a N c] 45)) by (repeat' (first | (with_reducible exact Below.refl _ _) | (with_reducible assumption) | (with_reducible refine Below.alloc ?_ ?_ _) | (with_reducible refine Below.drew ?_) | (with_reducible refine below_dn ?_) | (with_reducible refine Below.setCell ?_ ?_ _) | (with_reducible exact Nat.le_refl _) | omega | (simp only [World.size_alloc, World.size_setCell, World.size_drew]; omega) | (simp; omega) | (simp; done))))
  go_upto_region 1 with (fail)
  try rw [hG]
  generalize hw0 : (w.alloc (.cells #[.int .i64 len, .slice a N c] 45)) = w0 at Kb B ⊢
  clear hw0 hG
  obtain ⟨bbc0, bbc1⟩ := twob Kb.out
  go_wp2_with fail
  refine (C.out _ (HP.out.mono B.out)).mono ?_
  rintro e w1 ⟨rfl, hb⟩
  replace Kb := Lib.hid (Kb.out.below hb Kb.out.lt)
  replace B := Lib.hid (B.out.trans (hb.mono B.out.size))
  clear bbc0 bbc1
  clear hb
  obtain ⟨bbc0, bbc1⟩ := twob Kb.out
  go_wp2
  go_ret
  exact ⟨rfl, B.out⟩
theorem newp_both (len : Int) (a : Option Addr) (c : Nat) (l : List Rw)  : BothP 24 29 #[.int .i64 len] a l := by
  by_cases ok : OkP len []
  · exact ⟨len, [], 0, by simp, fun X hX => (newpurse_yes len X ok).mono fun e w' ⟨he, hb⟩ => ⟨⟨none, 0, he, RowsA.nil _ _ _ _⟩, hb⟩, fun X hX => (newpref_yes len X ok).mono fun e w' ⟨he, hb⟩ => ⟨⟨none, 0, he, RowsA.nil _ _ _ _⟩, hb⟩⟩
  · exact BothP.err 1 (fun X _ => newpurse_no len X ok) (fun X _ => newpref_no len X ok)
theorem recv_both (len wi n : Int) (a : Option Addr) (c : Nat) (l : List Rw) (hm : l.length ≤ 1000000) : BothP 25 30 #[.agg #[.int .i64 len, .slice a l.length c], .int .i64 wi, .int .i64 n] a l := by
  by_cases h : OkP len l ∧ winOk wi ∧ 0 ≤ n ∧ n ≤ 1099511627776
  · obtain ⟨ok, p1, p3⟩ := h
    by_cases h1 : n ≤ (coinL l wi).2.1
    · have h2 : hasC (cW wi) l = true ∨ n = 0 ∨ l.length < 10000 := by
        cases e : hasC (cW wi) l
        · right; left
          rw [coin_zero e] at h1
          simp only at h1
          omega
        · exact Or.inl rfl
      exact ⟨len, recvL l wi n, 0, by have := withL_len l (recvX (coinL l wi) n); unfold recvL; omega, fun X hX => (recv_ok len a c l wi n X hX ok p1 p3 h2).mono (fun e w' ⟨⟨a', c', he, hr, _⟩, hb⟩ => ⟨⟨a', c', he, hr⟩, hb⟩), fun X hX => recvref_old len a c l wi n X hX ok p1 p3 h1⟩
    · by_cases h2 : hasC (cW wi) l = true ∨ l.length < 10000
      · exact ⟨len, recvL l wi n, 0, by have := withL_len l (recvX (coinL l wi) n); unfold recvL; omega, fun X hX => (recv_ok len a c l wi n X hX ok p1 p3 (h2.elim Or.inl fun q => Or.inr (Or.inr q))).mono (fun e w' ⟨⟨a', c', he, hr, _⟩, hb⟩ => ⟨⟨a', c', he, hr⟩, hb⟩), fun X hX => recvref_new len a c l wi n X hX ok p1 p3 (by omega) h2⟩
      · have e : hasC (cW wi) l = false := by
          cases e : hasC (cW wi) l
          · rfl
          · exact absurd (Or.inl e) h2
        have e2 : 10000 ≤ l.length := Nat.le_of_not_lt fun q => h2 (Or.inr q)
        have e3 : 0 < n := by
          rw [coin_zero e] at h1
          simp only at h1
          omega
        exact BothP.err 2 (fun X hX => recv_limit len a c l wi n X hX ok p1 p3 e e3 e2) (fun X hX => recvref_full len a c l wi n X hX ok p1 p3 (by omega) e e2)
  · exact BothP.err 1 (fun X hX => recv_arg len a c l wi n X hX (by omega) h) (fun X hX => recvref_arg len a c l wi n X hX h (by omega))
theorem give_both (len wi n : Int) (a : Option Addr) (c : Nat) (l : List Rw) (hm : l.length ≤ 1000000) : BothP 27 32 #[.agg #[.int .i64 len, .slice a l.length c], .int .i64 wi, .int .i64 n] a l := by
  by_cases h : OkP len l ∧ winOk wi ∧ 1 ≤ n ∧ n ≤ 1073741824
  · obtain ⟨ok, p1, p3⟩ := h
    by_cases h1 : leftX (coinL l wi) < n
    · exact BothP.err 4 (fun X hX => give_err len a c l wi n X hX ok p1 p3 h1) (fun X hX => giveref_none len a c l wi n X hX ok p1 p3 h1)
    · exact ⟨len, giveL l wi n, 0, by have := withL_len l ((coinL l wi).1, (coinL l wi).2.1, (coinL l wi).2.2.1, (coinL l wi).2.2.2 + n); unfold giveL; omega, fun X hX => (give_ok len a c l wi n X hX ok p1 p3 h1).mono (fun e w' ⟨⟨a', c', he, hr, _⟩, hb⟩ => ⟨⟨a', c', he, hr⟩, hb⟩), fun X hX => giveref_ok len a c l wi n X hX ok p1 p3 h1⟩
  · exact BothP.err 1 (fun X hX => give_arg len a c l wi n X hX (by omega) h) (fun X hX => giveref_arg len a c l wi n X hX h (by omega))
theorem spend_both (len lo hi : Int) (a : Option Addr) (c : Nat) (l : List Rw) (hm : l.length ≤ 1000000) : BothP 26 31 #[.agg #[.int .i64 len, .slice a l.length c], per lo hi] a l := by
  by_cases h : OkP len l ∧ perB lo hi = true
  · obtain ⟨ok, p1⟩ := h
    by_cases h1 : lo / len = hi / len
    · by_cases h2 : leftX (coinL l (lo / len)) = 0
      · exact BothP.err 4 (fun X hX => spend_none len a c l lo hi X hX ok p1 h1 h2) (fun X hX => spendref_none len a c l lo hi X hX ok p1 h1 h2)
      · exact ⟨len, spendL l (lo / len), 0, by have := withL_len l ((coinL l (lo / len)).1, (coinL l (lo / len)).2.1, (coinL l (lo / len)).2.2.1 + 1, (coinL l (lo / len)).2.2.2); unfold spendL; omega, fun X hX => (spend_ok len a c l lo hi X hX ok p1 h1 h2).mono (fun e w' ⟨⟨a', c', he, hr, _⟩, hb⟩ => ⟨⟨a', c', he, hr⟩, hb⟩), fun X hX => spendref_ok len a c l lo hi X hX ok p1 h1 h2⟩
    · exact BothP.err 9 (fun X hX => spend_time len a c l lo hi X hX ok p1 h1) (fun X hX => spendref_time len a c l lo hi X hX ok p1 h1)
  · exact BothP.err 1 (fun X hX => spend_arg len a c l lo hi X hX (by omega) h) (fun X hX => spendref_arg len a c l lo hi X hX h (by omega))
theorem drop_both (len lo hi : Int) (a : Option Addr) (c : Nat) (l : List Rw) (hm : l.length ≤ 1000000) : BothP 28 33 #[.agg #[.int .i64 len, .slice a l.length c], per lo hi] a l := by
  by_cases h : OkP len l ∧ perB lo hi = true
  · obtain ⟨ok, p1⟩ := h
    have hw : ∀ x ∈ l, winOk x.1 := fun x hx => (ok.v.rows x hx).1
    exact ⟨len, forgetL l len lo, 0, by have := List.length_filter_le (fun x : Rw => ! decide ((x.1 + 1) * len ≤ lo)) l; unfold forgetL; omega, fun X hX => (drop_ok len a c l lo hi X hX ok p1 hw).mono (fun e w' ⟨⟨a', c', he, hr, _⟩, hb⟩ => ⟨⟨a', c', he, hr⟩, hb⟩), fun X hX => dropref_ok len a c l lo hi X hX ok p1 hw⟩
  · exact BothP.err 1 (fun X hX => drop_arg len a c l lo hi X hX (by omega) h) (fun X hX => dropref_arg len a c l lo hi X hX h (by omega))
theorem validp_both (len : Int) (a : Option Addr) (c : Nat) (l : List Rw) (hm : l.length ≤ 1000000) : ∃ v : Bool, (∀ X, RwA X a l → Calls Try.prog 34 #[.agg #[.int .i64 len, .slice a l.length c]] X fun e w' => e = .returned (.bool v) ∧ Below X.heap.size X w') ∧ ∀ X, RwA X a l → Calls Try.prog 35 #[.agg #[.int .i64 len, .slice a l.length c]] X fun e w' => e = .returned (.bool v) ∧ Below X.heap.size X w' := by
  by_cases ok : OkP len l
  · exact ⟨_, fun X hX => validp_yes ok a c X hX, fun X hX => rvalidp_yes ok a c X hX⟩
  · exact ⟨_, fun X hX => validp_no ok (by omega) a c X hX, fun X hX => rvalidp_no ok (by omega) a c X hX⟩
theorem left_both (len wi : Int) (a : Option Addr) (c : Nat) (l : List Rw) (hm : l.length ≤ 1000000) : ∃ v : Int, (∀ X, RwA X a l → Calls Try.prog 37 #[.agg #[.int .i64 len, .slice a l.length c], .int .i64 wi] X fun e w' => e = .returned (.int .i64 v) ∧ Below X.heap.size X w') ∧ ∀ X, RwA X a l → Calls Try.prog 38 #[.agg #[.int .i64 len, .slice a l.length c], .int .i64 wi] X fun e w' => e = .returned (.int .i64 v) ∧ Below X.heap.size X w' := by
  by_cases ok : OkP len l
  · exact ⟨_, fun X hX => leftp_any len a c l wi X hX ok, fun X hX => leftref_any len a c l wi X hX ok⟩
  · exact ⟨_, fun X hX => leftp_no len a c l wi X hX ok (by omega), fun X hX => leftref_no len a c l wi X hX ok (by omega)⟩
theorem back_both (len wi : Int) (a : Option Addr) (c : Nat) (l : List Rw) (hm : l.length ≤ 1000000) : ∃ v : Int, (∀ X, RwA X a l → Calls Try.prog 39 #[.agg #[.int .i64 len, .slice a l.length c], .int .i64 wi] X fun e w' => e = .returned (.int .i64 v) ∧ Below X.heap.size X w') ∧ ∀ X, RwA X a l → Calls Try.prog 40 #[.agg #[.int .i64 len, .slice a l.length c], .int .i64 wi] X fun e w' => e = .returned (.int .i64 v) ∧ Below X.heap.size X w' := by
  by_cases ok : OkP len l
  · exact ⟨_, fun X hX => backp_any len a c l wi X hX ok, fun X hX => backref_any len a c l wi X hX ok⟩
  · exact ⟨_, fun X hX => backp_no len a c l wi X hX ok (by omega), fun X hX => backref_no len a c l wi X hX ok (by omega)⟩
end
section
open Go.RowKit Go.Sort
set_option maxRecDepth 100000 in
set_option maxHeartbeats 2000000 in
theorem law4_some (len : Int) (a : Option Addr) (c : Nat) (l : List Rw) (wi n : Int) (lo hi : Int) (w : World) (hp : RwA w a l) (h : 40 < l.length) (h2 : l.length < 10000) : Calls Try.prog 4 #[.agg #[.int .i64 len, .slice a l.length c], .int .i64 wi, .int .i64 n, per lo hi] w fun e w' => e = .returned (.bool true) ∧ Below w.heap.size w w' := by
  have HP := Lib.hid hp
  have SN := Lib.hid (fun X : World => sanity_any X)
  obtain ⟨N, hN⟩ : ∃ N, l.length = N := ⟨_, rfl⟩
  rw [hN] at h h2 ⊢
  have t1 : decide ((40 : Int) < (N : Int)) = true := decide_eq_true (by omega)
  have t2 : decide ((N : Int) < (10000 : Int)) = true := decide_eq_true (by omega)
  clear hp hN h h2
  go_enter Try.func4, Try.ntmps4
  obtain ⟨G, hG⟩ : ∃ G, w.heap.size = G := ⟨_, rfl⟩
  have HG := Lib.hid hG
  have Kb := Lib.hid (show Blk ((w.alloc (.cells #[.int .i64 len, .slice a N c] 45)).alloc (.cells #[.int .i64 lo, .int .i64 hi] 26)) (G) 45 #[.int .i64 len, .slice a N c] from (Blk.new' _ _ _ _ hG rfl).alloc _)
  have Kp := Lib.hid (show Blk ((w.alloc (.cells #[.int .i64 len, .slice a N c] 45)).alloc (.cells #[.int .i64 lo, .int .i64 hi] 26)) (G + 1) 26 #[.int .i64 lo, .int .i64 hi] from Blk.new' _ _ _ _ (by rw [World.size_alloc, hG]) rfl)
  have B := Lib.hid (show Below w.heap.size w ((w.alloc (.cells #[.int .i64 len, .slice a N c] 45)).alloc (.cells #[.int .i64 lo, .int .i64 hi] 26)) by (repeat' (first | (with_reducible exact Below.refl _ _) | (with_reducible assumption) | (with_reducible refine Below.alloc ?_ ?_ _) | (with_reducible refine Below.drew ?_) | (with_reducible refine below_dn ?_) | (with_reducible refine Below.setCell ?_ ?_ _) | (with_reducible exact Nat.le_refl _) | omega | (simp only [World.size_alloc, World.size_setCell, World.size_drew]; omega) | (simp; omega) | (simp; done))))
  go_upto_region 1 with (fail)
  try rw [hG]
  generalize hw0 : ((w.alloc (.cells #[.int .i64 len, .slice a N c] 45)).alloc (.cells #[.int .i64 lo, .int .i64 hi] 26)) = w0 at Kb Kp B ⊢
  clear hw0 hG
  obtain ⟨bbc0, bbc1⟩ := twob Kb.out
  obtain ⟨bpc0, bpc1⟩ := twob Kp.out
  go_wp2_with fail
  refine (SN.out _).mono ?_
  rintro e w1 ⟨rfl, hb⟩
  replace Kb := Lib.hid (Kb.out.below hb Kb.out.lt)
  replace Kp := Lib.hid (Kp.out.below hb Kp.out.lt)
  replace B := Lib.hid (B.out.trans (hb.mono B.out.size))
  clear bbc0 bbc1 bpc0 bpc1
  clear hb
  obtain ⟨bbc0, bbc1⟩ := twob Kb.out
  obtain ⟨bpc0, bpc1⟩ := twob Kp.out
  go_wp2
  go_ret
  exact ⟨rfl, B.out⟩
set_option maxRecDepth 100000 in
set_option maxHeartbeats 2000000 in
theorem law4_many (len : Int) (a : Option Addr) (c : Nat) (l : List Rw) (wi n : Int) (lo hi : Int) (w : World) (hp : RwA w a l) (h : 10001 < l.length) : Calls Try.prog 4 #[.agg #[.int .i64 len, .slice a l.length c], .int .i64 wi, .int .i64 n, per lo hi] w fun e w' => e = .returned (.bool true) ∧ Below w.heap.size w w' := by
  have HP := Lib.hid hp
  have SN := Lib.hid (fun X : World => sanity_any X)
  obtain ⟨N, hN⟩ : ∃ N, l.length = N := ⟨_, rfl⟩
  rw [hN] at h ⊢
  have t1 : decide ((40 : Int) < (N : Int)) = true := decide_eq_true (by omega)
  have t2 : decide ((N : Int) < (10000 : Int)) = false := decide_eq_false (by omega)
  have t3 : decide ((10001 : Int) < (N : Int)) = true := decide_eq_true (by omega)
  clear hp hN h
  go_enter Try.func4, Try.ntmps4
  obtain ⟨G, hG⟩ : ∃ G, w.heap.size = G := ⟨_, rfl⟩
  have HG := Lib.hid hG
  have Kb := Lib.hid (show Blk ((w.alloc (.cells #[.int .i64 len, .slice a N c] 45)).alloc (.cells #[.int .i64 lo, .int .i64 hi] 26)) (G) 45 #[.int .i64 len, .slice a N c] from (Blk.new' _ _ _ _ hG rfl).alloc _)
  have Kp := Lib.hid (show Blk ((w.alloc (.cells #[.int .i64 len, .slice a N c] 45)).alloc (.cells #[.int .i64 lo, .int .i64 hi] 26)) (G + 1) 26 #[.int .i64 lo, .int .i64 hi] from Blk.new' _ _ _ _ (by rw [World.size_alloc, hG]) rfl)
  have B := Lib.hid (show Below w.heap.size w ((w.alloc (.cells #[.int .i64 len, .slice a N c] 45)).alloc (.cells #[.int .i64 lo, .int .i64 hi] 26)) by (repeat' (first | (with_reducible exact Below.refl _ _) | (with_reducible assumption) | (with_reducible refine Below.alloc ?_ ?_ _) | (with_reducible refine Below.drew ?_) | (with_reducible refine below_dn ?_) | (with_reducible refine Below.setCell ?_ ?_ _) | (with_reducible exact Nat.le_refl _) | omega | (simp only [World.size_alloc, World.size_setCell, World.size_drew]; omega) | (simp; omega) | (simp; done))))
  go_upto_region 1 with (fail)
  try rw [hG]
  generalize hw0 : ((w.alloc (.cells #[.int .i64 len, .slice a N c] 45)).alloc (.cells #[.int .i64 lo, .int .i64 hi] 26)) = w0 at Kb Kp B ⊢
  clear hw0 hG
  obtain ⟨bbc0, bbc1⟩ := twob Kb.out
  obtain ⟨bpc0, bpc1⟩ := twob Kp.out
  go_wp2_with fail
  refine (SN.out _).mono ?_
  rintro e w1 ⟨rfl, hb⟩
  replace Kb := Lib.hid (Kb.out.below hb Kb.out.lt)
  replace Kp := Lib.hid (Kp.out.below hb Kp.out.lt)
  replace B := Lib.hid (B.out.trans (hb.mono B.out.size))
  clear bbc0 bbc1 bpc0 bpc1
  clear hb
  obtain ⟨bbc0, bbc1⟩ := twob Kb.out
  obtain ⟨bpc0, bpc1⟩ := twob Kp.out
  go_wp2
  go_ret
  exact ⟨rfl, B.out⟩
set_option maxRecDepth 100000 in
set_option maxHeartbeats 8000000 in
theorem law4_few (len : Int) (a : Option Addr) (c : Nat) (l : List Rw) (wi n : Int) (lo hi : Int) (w : World) (hp : RwA w a l) (hl : l.length ≤ 10001) (h : ¬ 40 < l.length) : Calls Try.prog 4 #[.agg #[.int .i64 len, .slice a l.length c], .int .i64 wi, .int .i64 n, per lo hi] w fun e w' => e = .returned (.bool true) ∧ Below w.heap.size w w' := by
  have HP := Lib.hid hp
  have SN := Lib.hid (fun X : World => sanity_any X)
  obtain ⟨N, hN⟩ : ∃ N, l.length = N := ⟨_, rfl⟩
  rw [hN] at h
  obtain ⟨lm, Lm, em, hLm, Pm, Qm⟩ := newp_both len a c l
  have Pm := Lib.hid Pm
  have Qm := Lib.hid Qm
  have Sm := Lib.hid (fun (a b : Option Addr) (c c2 : Nat) (X : World) (q : RwA X a Lm) (q2 : RwA X b Lm) => same_purse lm a b c c2 Lm X q q2 hLm)
  obtain ⟨ld, Ld, ed, hLd, Pd, Qd⟩ := recv_both len wi n a c l (by omega)
  have Pd := Lib.hid Pd
  have Qd := Lib.hid Qd
  have Sd := Lib.hid (fun (a b : Option Addr) (c c2 : Nat) (X : World) (q : RwA X a Ld) (q2 : RwA X b Ld) => same_purse ld a b c c2 Ld X q q2 hLd)
  obtain ⟨lu, Lu, eu, hLu, Pu, Qu⟩ := spend_both len lo hi a c l (by omega)
  have Pu := Lib.hid Pu
  have Qu := Lib.hid Qu
  have Su := Lib.hid (fun (a b : Option Addr) (c c2 : Nat) (X : World) (q : RwA X a Lu) (q2 : RwA X b Lu) => same_purse lu a b c c2 Lu X q q2 hLu)
  obtain ⟨lv, Lv, ev, hLv, Pv, Qv⟩ := give_both len wi n a c l (by omega)
  have Pv := Lib.hid Pv
  have Qv := Lib.hid Qv
  have Sv := Lib.hid (fun (a b : Option Addr) (c c2 : Nat) (X : World) (q : RwA X a Lv) (q2 : RwA X b Lv) => same_purse lv a b c c2 Lv X q q2 hLv)
  obtain ⟨lf, Lf, ef, hLf, Pf, Qf⟩ := drop_both len lo hi a c l (by omega)
  have Pf := Lib.hid Pf
  have Qf := Lib.hid Qf
  have Sf := Lib.hid (fun (a b : Option Addr) (c c2 : Nat) (X : World) (q : RwA X a Lf) (q2 : RwA X b Lf) => same_purse lf a b c c2 Lf X q q2 hLf)
  obtain ⟨vV, PV, QV⟩ := validp_both len a c l (by omega)
  have PV := Lib.hid PV
  have QV := Lib.hid QV
  obtain ⟨vLT, PLT, QLT⟩ := left_both len wi a c l (by omega)
  have PLT := Lib.hid PLT
  have QLT := Lib.hid QLT
  obtain ⟨vBK, PBK, QBK⟩ := back_both len wi a c l (by omega)
  have PBK := Lib.hid PBK
  have QBK := Lib.hid QBK
  simp only [hN] at Pd Qd Pu Qu Pv Qv Pf Qf PV QV PLT QLT PBK QBK
  rw [hN]
  have t1 : decide ((40 : Int) < (N : Int)) = false := decide_eq_false (by omega)
  have t3 : decide ((10001 : Int) < (N : Int)) = false := decide_eq_false (by omega)
  clear hp hN hl hLm hLd hLu hLv hLf h
  obtain ⟨Mm, hMm⟩ : ∃ M, Lm.length = M := ⟨_, rfl⟩
  simp only [hMm] at Pm Qm Sm
  clear hMm
  obtain ⟨Md, hMd⟩ : ∃ M, Ld.length = M := ⟨_, rfl⟩
  simp only [hMd] at Pd Qd Sd
  clear hMd
  obtain ⟨Mu, hMu⟩ : ∃ M, Lu.length = M := ⟨_, rfl⟩
  simp only [hMu] at Pu Qu Su
  clear hMu
  obtain ⟨Mv, hMv⟩ : ∃ M, Lv.length = M := ⟨_, rfl⟩
  simp only [hMv] at Pv Qv Sv
  clear hMv
  obtain ⟨Mf, hMf⟩ : ∃ M, Lf.length = M := ⟨_, rfl⟩
  simp only [hMf] at Pf Qf Sf
  clear hMf
  go_enter Try.func4, Try.ntmps4
  obtain ⟨G, hG⟩ : ∃ G, w.heap.size = G := ⟨_, rfl⟩
  have HG := Lib.hid hG
  have Kb := Lib.hid (show Blk ((w.alloc (.cells #[.int .i64 len, .slice a N c] 45)).alloc (.cells #[.int .i64 lo, .int .i64 hi] 26)) (G) 45 #[.int .i64 len, .slice a N c] from (Blk.new' _ _ _ _ hG rfl).alloc _)
  have Kp := Lib.hid (show Blk ((w.alloc (.cells #[.int .i64 len, .slice a N c] 45)).alloc (.cells #[.int .i64 lo, .int .i64 hi] 26)) (G + 1) 26 #[.int .i64 lo, .int .i64 hi] from Blk.new' _ _ _ _ (by rw [World.size_alloc, hG]) rfl)
  have B := Lib.hid (show Below w.heap.size w ((w.alloc (.cells #[.int .i64 len, .slice a N c] 45)).alloc (.cells #[.int .i64 lo, .int .i64 hi] 26)) by (repeat' (first | (with_reducible exact Below.refl _ _) | (with_reducible assumption) | (with_reducible refine Below.alloc ?_ ?_ _) | (with_reducible refine Below.drew ?_) | (with_reducible refine below_dn ?_) | (with_reducible refine Below.setCell ?_ ?_ _) | (with_reducible exact Nat.le_refl _) | omega | (simp only [World.size_alloc, World.size_setCell, World.size_drew]; omega) | (simp; omega) | (simp; done))))
  go_upto_region 1 with (fail)
  try rw [hG]
  generalize hw0 : ((w.alloc (.cells #[.int .i64 len, .slice a N c] 45)).alloc (.cells #[.int .i64 lo, .int .i64 hi] 26)) = w0 at Kb Kp B ⊢
  clear hw0 hG
  obtain ⟨bbc0, bbc1⟩ := twob Kb.out
  obtain ⟨bpc0, bpc1⟩ := twob Kp.out
  go_wp2_with fail
  refine (Pm.out _ (HP.out.mono B.out)).mono ?_
  rintro e w1 ⟨⟨am, km, rfl, hr⟩, hb⟩
  have Rm := Lib.hid hr
  replace Kb := Lib.hid (Kb.out.below hb Kb.out.lt)
  replace Kp := Lib.hid (Kp.out.below hb Kp.out.lt)
  replace B := Lib.hid (B.out.trans (hb.mono B.out.size))
  clear bbc0 bbc1 bpc0 bpc1
  clear hb hr
  obtain ⟨bbc0, bbc1⟩ := twob Kb.out
  obtain ⟨bpc0, bpc1⟩ := twob Kp.out
  obtain ⟨gxm, hgxm⟩ : ∃ G, w1.heap.size = G := ⟨_, rfl⟩
  have Kxm := Lib.hid (show Blk (w1.alloc (.cells #[.int .i64 lm, .slice am Mm km] 45)) gxm 45 #[.int .i64 lm, .slice am Mm km] from Blk.new' w1 _ _ _ hgxm rfl)
  have Nbxm := Lib.hid (show G < gxm from by rw [← hgxm]; exact Kb.out.lt)
  replace Kb := Lib.hid (Kb.out.alloc (.cells #[.int .i64 lm, .slice am Mm km] 45))
  have Npxm := Lib.hid (show G + 1 < gxm from by rw [← hgxm]; exact Kp.out.lt)
  replace Kp := Lib.hid (Kp.out.alloc (.cells #[.int .i64 lm, .slice am Mm km] 45))
  replace Rm := Lib.hid (Rm.out.mono ((Below.refl _ w1).alloc (Nat.le_refl _) (.cells #[.int .i64 lm, .slice am Mm km] 45)))
  have Lxm := Lib.hid (show w.heap.size ≤ gxm from by rw [← hgxm]; exact B.out.size)
  replace B := Lib.hid (B.out.alloc B.out.size (.cells #[.int .i64 lm, .slice am Mm km] 45))
  go_upto_region 4 with (fail)
  try rw [hgxm]
  generalize hw : w1.alloc (.cells #[.int .i64 lm, .slice am Mm km] 45) = w2 at Kb Kp Kxm Rm B ⊢
  clear bbc0 bbc1 bpc0 bpc1
  clear hw hgxm
  obtain ⟨bbc0, bbc1⟩ := twob Kb.out
  obtain ⟨bpc0, bpc1⟩ := twob Kp.out
  obtain ⟨bxmc0, bxmc1⟩ := twob Kxm.out
  go_wp2_with fail
  refine (Pd.out _ (HP.out.mono B.out)).mono ?_
  rintro e w3 ⟨⟨ad, kd, rfl, hr⟩, hb⟩
  have Rd := Lib.hid hr
  replace Kb := Lib.hid (Kb.out.below hb Kb.out.lt)
  replace Kp := Lib.hid (Kp.out.below hb Kp.out.lt)
  replace Kxm := Lib.hid (Kxm.out.below hb Kxm.out.lt)
  replace Rm := Lib.hid (Rm.out.mono hb)
  replace B := Lib.hid (B.out.trans (hb.mono B.out.size))
  clear bbc0 bbc1 bpc0 bpc1 bxmc0 bxmc1
  clear hb hr
  obtain ⟨bbc0, bbc1⟩ := twob Kb.out
  obtain ⟨bpc0, bpc1⟩ := twob Kp.out
  obtain ⟨bxmc0, bxmc1⟩ := twob Kxm.out
  obtain ⟨gxd, hgxd⟩ : ∃ G, w3.heap.size = G := ⟨_, rfl⟩
  have Kxd := Lib.hid (show Blk (w3.alloc (.cells #[.int .i64 ld, .slice ad Md kd] 45)) gxd 45 #[.int .i64 ld, .slice ad Md kd] from Blk.new' w3 _ _ _ hgxd rfl)
  have Nbxd := Lib.hid (show G < gxd from by rw [← hgxd]; exact Kb.out.lt)
  replace Kb := Lib.hid (Kb.out.alloc (.cells #[.int .i64 ld, .slice ad Md kd] 45))
  have Npxd := Lib.hid (show G + 1 < gxd from by rw [← hgxd]; exact Kp.out.lt)
  replace Kp := Lib.hid (Kp.out.alloc (.cells #[.int .i64 ld, .slice ad Md kd] 45))
  have Nxmxd := Lib.hid (show gxm < gxd from by rw [← hgxd]; exact Kxm.out.lt)
  replace Kxm := Lib.hid (Kxm.out.alloc (.cells #[.int .i64 ld, .slice ad Md kd] 45))
  replace Rm := Lib.hid (Rm.out.mono ((Below.refl _ w3).alloc (Nat.le_refl _) (.cells #[.int .i64 ld, .slice ad Md kd] 45)))
  replace Rd := Lib.hid (Rd.out.mono ((Below.refl _ w3).alloc (Nat.le_refl _) (.cells #[.int .i64 ld, .slice ad Md kd] 45)))
  have Lxd := Lib.hid (show w.heap.size ≤ gxd from by rw [← hgxd]; exact B.out.size)
  replace B := Lib.hid (B.out.alloc B.out.size (.cells #[.int .i64 ld, .slice ad Md kd] 45))
  go_upto_region 5 with (fail)
  try rw [hgxd]
  generalize hw : w3.alloc (.cells #[.int .i64 ld, .slice ad Md kd] 45) = w4 at Kb Kp Kxm Kxd Rm Rd B ⊢
  clear bbc0 bbc1 bpc0 bpc1 bxmc0 bxmc1
  clear hw hgxd
  obtain ⟨bbc0, bbc1⟩ := twob Kb.out
  obtain ⟨bpc0, bpc1⟩ := twob Kp.out
  obtain ⟨bxmc0, bxmc1⟩ := twob Kxm.out
  obtain ⟨bxdc0, bxdc1⟩ := twob Kxd.out
  go_wp2_with fail
  refine (Pu.out _ (HP.out.mono B.out)).mono ?_
  rintro e w5 ⟨⟨au, ku, rfl, hr⟩, hb⟩
  have Ru := Lib.hid hr
  replace Kb := Lib.hid (Kb.out.below hb Kb.out.lt)
  replace Kp := Lib.hid (Kp.out.below hb Kp.out.lt)
  replace Kxm := Lib.hid (Kxm.out.below hb Kxm.out.lt)
  replace Kxd := Lib.hid (Kxd.out.below hb Kxd.out.lt)
  replace Rm := Lib.hid (Rm.out.mono hb)
  replace Rd := Lib.hid (Rd.out.mono hb)
  replace B := Lib.hid (B.out.trans (hb.mono B.out.size))
  clear bbc0 bbc1 bpc0 bpc1 bxmc0 bxmc1 bxdc0 bxdc1
  clear hb hr
  obtain ⟨bbc0, bbc1⟩ := twob Kb.out
  obtain ⟨bpc0, bpc1⟩ := twob Kp.out
  obtain ⟨bxmc0, bxmc1⟩ := twob Kxm.out
  obtain ⟨bxdc0, bxdc1⟩ := twob Kxd.out
  obtain ⟨gxu, hgxu⟩ : ∃ G, w5.heap.size = G := ⟨_, rfl⟩
  have Kxu := Lib.hid (show Blk (w5.alloc (.cells #[.int .i64 lu, .slice au Mu ku] 45)) gxu 45 #[.int .i64 lu, .slice au Mu ku] from Blk.new' w5 _ _ _ hgxu rfl)
  have Nbxu := Lib.hid (show G < gxu from by rw [← hgxu]; exact Kb.out.lt)
  replace Kb := Lib.hid (Kb.out.alloc (.cells #[.int .i64 lu, .slice au Mu ku] 45))
  have Npxu := Lib.hid (show G + 1 < gxu from by rw [← hgxu]; exact Kp.out.lt)
  replace Kp := Lib.hid (Kp.out.alloc (.cells #[.int .i64 lu, .slice au Mu ku] 45))
  have Nxmxu := Lib.hid (show gxm < gxu from by rw [← hgxu]; exact Kxm.out.lt)
  replace Kxm := Lib.hid (Kxm.out.alloc (.cells #[.int .i64 lu, .slice au Mu ku] 45))
  have Nxdxu := Lib.hid (show gxd < gxu from by rw [← hgxu]; exact Kxd.out.lt)
  replace Kxd := Lib.hid (Kxd.out.alloc (.cells #[.int .i64 lu, .slice au Mu ku] 45))
  replace Rm := Lib.hid (Rm.out.mono ((Below.refl _ w5).alloc (Nat.le_refl _) (.cells #[.int .i64 lu, .slice au Mu ku] 45)))
  replace Rd := Lib.hid (Rd.out.mono ((Below.refl _ w5).alloc (Nat.le_refl _) (.cells #[.int .i64 lu, .slice au Mu ku] 45)))
  replace Ru := Lib.hid (Ru.out.mono ((Below.refl _ w5).alloc (Nat.le_refl _) (.cells #[.int .i64 lu, .slice au Mu ku] 45)))
  have Lxu := Lib.hid (show w.heap.size ≤ gxu from by rw [← hgxu]; exact B.out.size)
  replace B := Lib.hid (B.out.alloc B.out.size (.cells #[.int .i64 lu, .slice au Mu ku] 45))
  go_upto_region 6 with (fail)
  try rw [hgxu]
  generalize hw : w5.alloc (.cells #[.int .i64 lu, .slice au Mu ku] 45) = w6 at Kb Kp Kxm Kxd Kxu Rm Rd Ru B ⊢
  clear bbc0 bbc1 bpc0 bpc1 bxmc0 bxmc1 bxdc0 bxdc1
  clear hw hgxu
  obtain ⟨bbc0, bbc1⟩ := twob Kb.out
  obtain ⟨bpc0, bpc1⟩ := twob Kp.out
  obtain ⟨bxmc0, bxmc1⟩ := twob Kxm.out
  obtain ⟨bxdc0, bxdc1⟩ := twob Kxd.out
  obtain ⟨bxuc0, bxuc1⟩ := twob Kxu.out
  go_wp2_with fail
  refine (Pv.out _ (HP.out.mono B.out)).mono ?_
  rintro e w7 ⟨⟨av, kv, rfl, hr⟩, hb⟩
  have Rv := Lib.hid hr
  replace Kb := Lib.hid (Kb.out.below hb Kb.out.lt)
  replace Kp := Lib.hid (Kp.out.below hb Kp.out.lt)
  replace Kxm := Lib.hid (Kxm.out.below hb Kxm.out.lt)
  replace Kxd := Lib.hid (Kxd.out.below hb Kxd.out.lt)
  replace Kxu := Lib.hid (Kxu.out.below hb Kxu.out.lt)
  replace Rm := Lib.hid (Rm.out.mono hb)
  replace Rd := Lib.hid (Rd.out.mono hb)
  replace Ru := Lib.hid (Ru.out.mono hb)
  replace B := Lib.hid (B.out.trans (hb.mono B.out.size))
  clear bbc0 bbc1 bpc0 bpc1 bxmc0 bxmc1 bxdc0 bxdc1 bxuc0 bxuc1
  clear hb hr
  obtain ⟨bbc0, bbc1⟩ := twob Kb.out
  obtain ⟨bpc0, bpc1⟩ := twob Kp.out
  obtain ⟨bxmc0, bxmc1⟩ := twob Kxm.out
  obtain ⟨bxdc0, bxdc1⟩ := twob Kxd.out
  obtain ⟨bxuc0, bxuc1⟩ := twob Kxu.out
  obtain ⟨gxv, hgxv⟩ : ∃ G, w7.heap.size = G := ⟨_, rfl⟩
  have Kxv := Lib.hid (show Blk (w7.alloc (.cells #[.int .i64 lv, .slice av Mv kv] 45)) gxv 45 #[.int .i64 lv, .slice av Mv kv] from Blk.new' w7 _ _ _ hgxv rfl)
  have Nbxv := Lib.hid (show G < gxv from by rw [← hgxv]; exact Kb.out.lt)
  replace Kb := Lib.hid (Kb.out.alloc (.cells #[.int .i64 lv, .slice av Mv kv] 45))
  have Npxv := Lib.hid (show G + 1 < gxv from by rw [← hgxv]; exact Kp.out.lt)
  replace Kp := Lib.hid (Kp.out.alloc (.cells #[.int .i64 lv, .slice av Mv kv] 45))
  have Nxmxv := Lib.hid (show gxm < gxv from by rw [← hgxv]; exact Kxm.out.lt)
  replace Kxm := Lib.hid (Kxm.out.alloc (.cells #[.int .i64 lv, .slice av Mv kv] 45))
  have Nxdxv := Lib.hid (show gxd < gxv from by rw [← hgxv]; exact Kxd.out.lt)
  replace Kxd := Lib.hid (Kxd.out.alloc (.cells #[.int .i64 lv, .slice av Mv kv] 45))
  have Nxuxv := Lib.hid (show gxu < gxv from by rw [← hgxv]; exact Kxu.out.lt)
  replace Kxu := Lib.hid (Kxu.out.alloc (.cells #[.int .i64 lv, .slice av Mv kv] 45))
  replace Rm := Lib.hid (Rm.out.mono ((Below.refl _ w7).alloc (Nat.le_refl _) (.cells #[.int .i64 lv, .slice av Mv kv] 45)))
  replace Rd := Lib.hid (Rd.out.mono ((Below.refl _ w7).alloc (Nat.le_refl _) (.cells #[.int .i64 lv, .slice av Mv kv] 45)))
  replace Ru := Lib.hid (Ru.out.mono ((Below.refl _ w7).alloc (Nat.le_refl _) (.cells #[.int .i64 lv, .slice av Mv kv] 45)))
  replace Rv := Lib.hid (Rv.out.mono ((Below.refl _ w7).alloc (Nat.le_refl _) (.cells #[.int .i64 lv, .slice av Mv kv] 45)))
  have Lxv := Lib.hid (show w.heap.size ≤ gxv from by rw [← hgxv]; exact B.out.size)
  replace B := Lib.hid (B.out.alloc B.out.size (.cells #[.int .i64 lv, .slice av Mv kv] 45))
  go_upto_region 7 with (fail)
  try rw [hgxv]
  generalize hw : w7.alloc (.cells #[.int .i64 lv, .slice av Mv kv] 45) = w8 at Kb Kp Kxm Kxd Kxu Kxv Rm Rd Ru Rv B ⊢
  clear bbc0 bbc1 bpc0 bpc1 bxmc0 bxmc1 bxdc0 bxdc1 bxuc0 bxuc1
  clear hw hgxv
  obtain ⟨bbc0, bbc1⟩ := twob Kb.out
  obtain ⟨bpc0, bpc1⟩ := twob Kp.out
  obtain ⟨bxmc0, bxmc1⟩ := twob Kxm.out
  obtain ⟨bxdc0, bxdc1⟩ := twob Kxd.out
  obtain ⟨bxuc0, bxuc1⟩ := twob Kxu.out
  obtain ⟨bxvc0, bxvc1⟩ := twob Kxv.out
  go_wp2_with fail
  refine (Pf.out _ (HP.out.mono B.out)).mono ?_
  rintro e w9 ⟨⟨af, kf, rfl, hr⟩, hb⟩
  have Rf := Lib.hid hr
  replace Kb := Lib.hid (Kb.out.below hb Kb.out.lt)
  replace Kp := Lib.hid (Kp.out.below hb Kp.out.lt)
  replace Kxm := Lib.hid (Kxm.out.below hb Kxm.out.lt)
  replace Kxd := Lib.hid (Kxd.out.below hb Kxd.out.lt)
  replace Kxu := Lib.hid (Kxu.out.below hb Kxu.out.lt)
  replace Kxv := Lib.hid (Kxv.out.below hb Kxv.out.lt)
  replace Rm := Lib.hid (Rm.out.mono hb)
  replace Rd := Lib.hid (Rd.out.mono hb)
  replace Ru := Lib.hid (Ru.out.mono hb)
  replace Rv := Lib.hid (Rv.out.mono hb)
  replace B := Lib.hid (B.out.trans (hb.mono B.out.size))
  clear bbc0 bbc1 bpc0 bpc1 bxmc0 bxmc1 bxdc0 bxdc1 bxuc0 bxuc1 bxvc0 bxvc1
  clear hb hr
  obtain ⟨bbc0, bbc1⟩ := twob Kb.out
  obtain ⟨bpc0, bpc1⟩ := twob Kp.out
  obtain ⟨bxmc0, bxmc1⟩ := twob Kxm.out
  obtain ⟨bxdc0, bxdc1⟩ := twob Kxd.out
  obtain ⟨bxuc0, bxuc1⟩ := twob Kxu.out
  obtain ⟨bxvc0, bxvc1⟩ := twob Kxv.out
  obtain ⟨gxf, hgxf⟩ : ∃ G, w9.heap.size = G := ⟨_, rfl⟩
  have Kxf := Lib.hid (show Blk (w9.alloc (.cells #[.int .i64 lf, .slice af Mf kf] 45)) gxf 45 #[.int .i64 lf, .slice af Mf kf] from Blk.new' w9 _ _ _ hgxf rfl)
  have Nbxf := Lib.hid (show G < gxf from by rw [← hgxf]; exact Kb.out.lt)
  replace Kb := Lib.hid (Kb.out.alloc (.cells #[.int .i64 lf, .slice af Mf kf] 45))
  have Npxf := Lib.hid (show G + 1 < gxf from by rw [← hgxf]; exact Kp.out.lt)
  replace Kp := Lib.hid (Kp.out.alloc (.cells #[.int .i64 lf, .slice af Mf kf] 45))
  have Nxmxf := Lib.hid (show gxm < gxf from by rw [← hgxf]; exact Kxm.out.lt)
  replace Kxm := Lib.hid (Kxm.out.alloc (.cells #[.int .i64 lf, .slice af Mf kf] 45))
  have Nxdxf := Lib.hid (show gxd < gxf from by rw [← hgxf]; exact Kxd.out.lt)
  replace Kxd := Lib.hid (Kxd.out.alloc (.cells #[.int .i64 lf, .slice af Mf kf] 45))
  have Nxuxf := Lib.hid (show gxu < gxf from by rw [← hgxf]; exact Kxu.out.lt)
  replace Kxu := Lib.hid (Kxu.out.alloc (.cells #[.int .i64 lf, .slice af Mf kf] 45))
  have Nxvxf := Lib.hid (show gxv < gxf from by rw [← hgxf]; exact Kxv.out.lt)
  replace Kxv := Lib.hid (Kxv.out.alloc (.cells #[.int .i64 lf, .slice af Mf kf] 45))
  replace Rm := Lib.hid (Rm.out.mono ((Below.refl _ w9).alloc (Nat.le_refl _) (.cells #[.int .i64 lf, .slice af Mf kf] 45)))
  replace Rd := Lib.hid (Rd.out.mono ((Below.refl _ w9).alloc (Nat.le_refl _) (.cells #[.int .i64 lf, .slice af Mf kf] 45)))
  replace Ru := Lib.hid (Ru.out.mono ((Below.refl _ w9).alloc (Nat.le_refl _) (.cells #[.int .i64 lf, .slice af Mf kf] 45)))
  replace Rv := Lib.hid (Rv.out.mono ((Below.refl _ w9).alloc (Nat.le_refl _) (.cells #[.int .i64 lf, .slice af Mf kf] 45)))
  replace Rf := Lib.hid (Rf.out.mono ((Below.refl _ w9).alloc (Nat.le_refl _) (.cells #[.int .i64 lf, .slice af Mf kf] 45)))
  have Lxf := Lib.hid (show w.heap.size ≤ gxf from by rw [← hgxf]; exact B.out.size)
  replace B := Lib.hid (B.out.alloc B.out.size (.cells #[.int .i64 lf, .slice af Mf kf] 45))
  go_upto_region 8 with (fail)
  try rw [hgxf]
  generalize hw : w9.alloc (.cells #[.int .i64 lf, .slice af Mf kf] 45) = w10 at Kb Kp Kxm Kxd Kxu Kxv Kxf Rm Rd Ru Rv Rf B ⊢
  clear bbc0 bbc1 bpc0 bpc1 bxmc0 bxmc1 bxdc0 bxdc1 bxuc0 bxuc1 bxvc0 bxvc1
  clear hw hgxf
  obtain ⟨bbc0, bbc1⟩ := twob Kb.out
  obtain ⟨bpc0, bpc1⟩ := twob Kp.out
  obtain ⟨bxmc0, bxmc1⟩ := twob Kxm.out
  obtain ⟨bxdc0, bxdc1⟩ := twob Kxd.out
  obtain ⟨bxuc0, bxuc1⟩ := twob Kxu.out
  obtain ⟨bxvc0, bxvc1⟩ := twob Kxv.out
  obtain ⟨bxfc0, bxfc1⟩ := twob Kxf.out
  go_wp2_with fail
  refine (Qm.out _ (HP.out.mono B.out)).mono ?_
  rintro e w11 ⟨⟨bm, jm, rfl, hr⟩, hb⟩
  have Rmq := Lib.hid hr
  replace Kb := Lib.hid (Kb.out.below hb Kb.out.lt)
  replace Kp := Lib.hid (Kp.out.below hb Kp.out.lt)
  replace Kxm := Lib.hid (Kxm.out.below hb Kxm.out.lt)
  replace Kxd := Lib.hid (Kxd.out.below hb Kxd.out.lt)
  replace Kxu := Lib.hid (Kxu.out.below hb Kxu.out.lt)
  replace Kxv := Lib.hid (Kxv.out.below hb Kxv.out.lt)
  replace Kxf := Lib.hid (Kxf.out.below hb Kxf.out.lt)
  replace Rm := Lib.hid (Rm.out.mono hb)
  replace Rd := Lib.hid (Rd.out.mono hb)
  replace Ru := Lib.hid (Ru.out.mono hb)
  replace Rv := Lib.hid (Rv.out.mono hb)
  replace Rf := Lib.hid (Rf.out.mono hb)
  replace B := Lib.hid (B.out.trans (hb.mono B.out.size))
  clear bbc0 bbc1 bpc0 bpc1 bxmc0 bxmc1 bxdc0 bxdc1 bxuc0 bxuc1 bxvc0 bxvc1 bxfc0 bxfc1
  clear hb hr
  obtain ⟨bbc0, bbc1⟩ := twob Kb.out
  obtain ⟨bpc0, bpc1⟩ := twob Kp.out
  obtain ⟨bxmc0, bxmc1⟩ := twob Kxm.out
  obtain ⟨bxdc0, bxdc1⟩ := twob Kxd.out
  obtain ⟨bxuc0, bxuc1⟩ := twob Kxu.out
  obtain ⟨bxvc0, bxvc1⟩ := twob Kxv.out
  obtain ⟨bxfc0, bxfc1⟩ := twob Kxf.out
  obtain ⟨gym, hgym⟩ : ∃ G, w11.heap.size = G := ⟨_, rfl⟩
  have Kym := Lib.hid (show Blk (w11.alloc (.cells #[.int .i64 lm, .slice bm Mm jm, .int .i64 em] 51)) gym 51 #[.int .i64 lm, .slice bm Mm jm, .int .i64 em] from Blk.new' w11 _ _ _ hgym rfl)
  have Nbym := Lib.hid (show G < gym from by rw [← hgym]; exact Kb.out.lt)
  replace Kb := Lib.hid (Kb.out.alloc (.cells #[.int .i64 lm, .slice bm Mm jm, .int .i64 em] 51))
  have Npym := Lib.hid (show G + 1 < gym from by rw [← hgym]; exact Kp.out.lt)
  replace Kp := Lib.hid (Kp.out.alloc (.cells #[.int .i64 lm, .slice bm Mm jm, .int .i64 em] 51))
  have Nxmym := Lib.hid (show gxm < gym from by rw [← hgym]; exact Kxm.out.lt)
  replace Kxm := Lib.hid (Kxm.out.alloc (.cells #[.int .i64 lm, .slice bm Mm jm, .int .i64 em] 51))
  have Nxdym := Lib.hid (show gxd < gym from by rw [← hgym]; exact Kxd.out.lt)
  replace Kxd := Lib.hid (Kxd.out.alloc (.cells #[.int .i64 lm, .slice bm Mm jm, .int .i64 em] 51))
  have Nxuym := Lib.hid (show gxu < gym from by rw [← hgym]; exact Kxu.out.lt)
  replace Kxu := Lib.hid (Kxu.out.alloc (.cells #[.int .i64 lm, .slice bm Mm jm, .int .i64 em] 51))
  have Nxvym := Lib.hid (show gxv < gym from by rw [← hgym]; exact Kxv.out.lt)
  replace Kxv := Lib.hid (Kxv.out.alloc (.cells #[.int .i64 lm, .slice bm Mm jm, .int .i64 em] 51))
  have Nxfym := Lib.hid (show gxf < gym from by rw [← hgym]; exact Kxf.out.lt)
  replace Kxf := Lib.hid (Kxf.out.alloc (.cells #[.int .i64 lm, .slice bm Mm jm, .int .i64 em] 51))
  replace Rm := Lib.hid (Rm.out.mono ((Below.refl _ w11).alloc (Nat.le_refl _) (.cells #[.int .i64 lm, .slice bm Mm jm, .int .i64 em] 51)))
  replace Rd := Lib.hid (Rd.out.mono ((Below.refl _ w11).alloc (Nat.le_refl _) (.cells #[.int .i64 lm, .slice bm Mm jm, .int .i64 em] 51)))
  replace Ru := Lib.hid (Ru.out.mono ((Below.refl _ w11).alloc (Nat.le_refl _) (.cells #[.int .i64 lm, .slice bm Mm jm, .int .i64 em] 51)))
  replace Rv := Lib.hid (Rv.out.mono ((Below.refl _ w11).alloc (Nat.le_refl _) (.cells #[.int .i64 lm, .slice bm Mm jm, .int .i64 em] 51)))
  replace Rf := Lib.hid (Rf.out.mono ((Below.refl _ w11).alloc (Nat.le_refl _) (.cells #[.int .i64 lm, .slice bm Mm jm, .int .i64 em] 51)))
  replace Rmq := Lib.hid (Rmq.out.mono ((Below.refl _ w11).alloc (Nat.le_refl _) (.cells #[.int .i64 lm, .slice bm Mm jm, .int .i64 em] 51)))
  have Lym := Lib.hid (show w.heap.size ≤ gym from by rw [← hgym]; exact B.out.size)
  replace B := Lib.hid (B.out.alloc B.out.size (.cells #[.int .i64 lm, .slice bm Mm jm, .int .i64 em] 51))
  go_upto_region 9 with (fail)
  try rw [hgym]
  generalize hw : w11.alloc (.cells #[.int .i64 lm, .slice bm Mm jm, .int .i64 em] 51) = w12 at Kb Kp Kxm Kxd Kxu Kxv Kxf Kym Rm Rd Ru Rv Rf Rmq B ⊢
  clear bbc0 bbc1 bpc0 bpc1 bxmc0 bxmc1 bxdc0 bxdc1 bxuc0 bxuc1 bxvc0 bxvc1 bxfc0 bxfc1
  clear hw hgym
  obtain ⟨bbc0, bbc1⟩ := twob Kb.out
  obtain ⟨bpc0, bpc1⟩ := twob Kp.out
  obtain ⟨bxmc0, bxmc1⟩ := twob Kxm.out
  obtain ⟨bxdc0, bxdc1⟩ := twob Kxd.out
  obtain ⟨bxuc0, bxuc1⟩ := twob Kxu.out
  obtain ⟨bxvc0, bxvc1⟩ := twob Kxv.out
  obtain ⟨bxfc0, bxfc1⟩ := twob Kxf.out
  obtain ⟨bymc0, bymc1, bymc2⟩ := three Kym.out
  go_wp2_with fail
  refine (Qd.out _ (HP.out.mono B.out)).mono ?_
  rintro e w13 ⟨⟨bd, jd, rfl, hr⟩, hb⟩
  have Rdq := Lib.hid hr
  replace Kb := Lib.hid (Kb.out.below hb Kb.out.lt)
  replace Kp := Lib.hid (Kp.out.below hb Kp.out.lt)
  replace Kxm := Lib.hid (Kxm.out.below hb Kxm.out.lt)
  replace Kxd := Lib.hid (Kxd.out.below hb Kxd.out.lt)
  replace Kxu := Lib.hid (Kxu.out.below hb Kxu.out.lt)
  replace Kxv := Lib.hid (Kxv.out.below hb Kxv.out.lt)
  replace Kxf := Lib.hid (Kxf.out.below hb Kxf.out.lt)
  replace Kym := Lib.hid (Kym.out.below hb Kym.out.lt)
  replace Rm := Lib.hid (Rm.out.mono hb)
  replace Rd := Lib.hid (Rd.out.mono hb)
  replace Ru := Lib.hid (Ru.out.mono hb)
  replace Rv := Lib.hid (Rv.out.mono hb)
  replace Rf := Lib.hid (Rf.out.mono hb)
  replace Rmq := Lib.hid (Rmq.out.mono hb)
  replace B := Lib.hid (B.out.trans (hb.mono B.out.size))
  clear bbc0 bbc1 bpc0 bpc1 bxmc0 bxmc1 bxdc0 bxdc1 bxuc0 bxuc1 bxvc0 bxvc1 bxfc0 bxfc1 bymc0 bymc1 bymc2
  clear hb hr
  obtain ⟨bbc0, bbc1⟩ := twob Kb.out
  obtain ⟨bpc0, bpc1⟩ := twob Kp.out
  obtain ⟨bxmc0, bxmc1⟩ := twob Kxm.out
  obtain ⟨bxdc0, bxdc1⟩ := twob Kxd.out
  obtain ⟨bxuc0, bxuc1⟩ := twob Kxu.out
  obtain ⟨bxvc0, bxvc1⟩ := twob Kxv.out
  obtain ⟨bxfc0, bxfc1⟩ := twob Kxf.out
  obtain ⟨bymc0, bymc1, bymc2⟩ := three Kym.out
  obtain ⟨gyd, hgyd⟩ : ∃ G, w13.heap.size = G := ⟨_, rfl⟩
  have Kyd := Lib.hid (show Blk (w13.alloc (.cells #[.int .i64 ld, .slice bd Md jd, .int .i64 ed] 51)) gyd 51 #[.int .i64 ld, .slice bd Md jd, .int .i64 ed] from Blk.new' w13 _ _ _ hgyd rfl)
  have Nbyd := Lib.hid (show G < gyd from by rw [← hgyd]; exact Kb.out.lt)
  replace Kb := Lib.hid (Kb.out.alloc (.cells #[.int .i64 ld, .slice bd Md jd, .int .i64 ed] 51))
  have Npyd := Lib.hid (show G + 1 < gyd from by rw [← hgyd]; exact Kp.out.lt)
  replace Kp := Lib.hid (Kp.out.alloc (.cells #[.int .i64 ld, .slice bd Md jd, .int .i64 ed] 51))
  have Nxmyd := Lib.hid (show gxm < gyd from by rw [← hgyd]; exact Kxm.out.lt)
  replace Kxm := Lib.hid (Kxm.out.alloc (.cells #[.int .i64 ld, .slice bd Md jd, .int .i64 ed] 51))
  have Nxdyd := Lib.hid (show gxd < gyd from by rw [← hgyd]; exact Kxd.out.lt)
  replace Kxd := Lib.hid (Kxd.out.alloc (.cells #[.int .i64 ld, .slice bd Md jd, .int .i64 ed] 51))
  have Nxuyd := Lib.hid (show gxu < gyd from by rw [← hgyd]; exact Kxu.out.lt)
  replace Kxu := Lib.hid (Kxu.out.alloc (.cells #[.int .i64 ld, .slice bd Md jd, .int .i64 ed] 51))
  have Nxvyd := Lib.hid (show gxv < gyd from by rw [← hgyd]; exact Kxv.out.lt)
  replace Kxv := Lib.hid (Kxv.out.alloc (.cells #[.int .i64 ld, .slice bd Md jd, .int .i64 ed] 51))
  have Nxfyd := Lib.hid (show gxf < gyd from by rw [← hgyd]; exact Kxf.out.lt)
  replace Kxf := Lib.hid (Kxf.out.alloc (.cells #[.int .i64 ld, .slice bd Md jd, .int .i64 ed] 51))
  have Nymyd := Lib.hid (show gym < gyd from by rw [← hgyd]; exact Kym.out.lt)
  replace Kym := Lib.hid (Kym.out.alloc (.cells #[.int .i64 ld, .slice bd Md jd, .int .i64 ed] 51))
  replace Rm := Lib.hid (Rm.out.mono ((Below.refl _ w13).alloc (Nat.le_refl _) (.cells #[.int .i64 ld, .slice bd Md jd, .int .i64 ed] 51)))
  replace Rd := Lib.hid (Rd.out.mono ((Below.refl _ w13).alloc (Nat.le_refl _) (.cells #[.int .i64 ld, .slice bd Md jd, .int .i64 ed] 51)))
  replace Ru := Lib.hid (Ru.out.mono ((Below.refl _ w13).alloc (Nat.le_refl _) (.cells #[.int .i64 ld, .slice bd Md jd, .int .i64 ed] 51)))
  replace Rv := Lib.hid (Rv.out.mono ((Below.refl _ w13).alloc (Nat.le_refl _) (.cells #[.int .i64 ld, .slice bd Md jd, .int .i64 ed] 51)))
  replace Rf := Lib.hid (Rf.out.mono ((Below.refl _ w13).alloc (Nat.le_refl _) (.cells #[.int .i64 ld, .slice bd Md jd, .int .i64 ed] 51)))
  replace Rmq := Lib.hid (Rmq.out.mono ((Below.refl _ w13).alloc (Nat.le_refl _) (.cells #[.int .i64 ld, .slice bd Md jd, .int .i64 ed] 51)))
  replace Rdq := Lib.hid (Rdq.out.mono ((Below.refl _ w13).alloc (Nat.le_refl _) (.cells #[.int .i64 ld, .slice bd Md jd, .int .i64 ed] 51)))
  have Lyd := Lib.hid (show w.heap.size ≤ gyd from by rw [← hgyd]; exact B.out.size)
  replace B := Lib.hid (B.out.alloc B.out.size (.cells #[.int .i64 ld, .slice bd Md jd, .int .i64 ed] 51))
  go_upto_region 10 with (fail)
  try rw [hgyd]
  generalize hw : w13.alloc (.cells #[.int .i64 ld, .slice bd Md jd, .int .i64 ed] 51) = w14 at Kb Kp Kxm Kxd Kxu Kxv Kxf Kym Kyd Rm Rd Ru Rv Rf Rmq Rdq B ⊢
  clear bbc0 bbc1 bpc0 bpc1 bxmc0 bxmc1 bxdc0 bxdc1 bxuc0 bxuc1 bxvc0 bxvc1 bxfc0 bxfc1 bymc0 bymc1 bymc2
  clear hw hgyd
  obtain ⟨bbc0, bbc1⟩ := twob Kb.out
  obtain ⟨bpc0, bpc1⟩ := twob Kp.out
  obtain ⟨bxmc0, bxmc1⟩ := twob Kxm.out
  obtain ⟨bxdc0, bxdc1⟩ := twob Kxd.out
  obtain ⟨bxuc0, bxuc1⟩ := twob Kxu.out
  obtain ⟨bxvc0, bxvc1⟩ := twob Kxv.out
  obtain ⟨bxfc0, bxfc1⟩ := twob Kxf.out
  obtain ⟨bymc0, bymc1, bymc2⟩ := three Kym.out
  obtain ⟨bydc0, bydc1, bydc2⟩ := three Kyd.out
  go_wp2_with fail
  refine (Qu.out _ (HP.out.mono B.out)).mono ?_
  rintro e w15 ⟨⟨bu, ju, rfl, hr⟩, hb⟩
  have Ruq := Lib.hid hr
  replace Kb := Lib.hid (Kb.out.below hb Kb.out.lt)
  replace Kp := Lib.hid (Kp.out.below hb Kp.out.lt)
  replace Kxm := Lib.hid (Kxm.out.below hb Kxm.out.lt)
  replace Kxd := Lib.hid (Kxd.out.below hb Kxd.out.lt)
  replace Kxu := Lib.hid (Kxu.out.below hb Kxu.out.lt)
  replace Kxv := Lib.hid (Kxv.out.below hb Kxv.out.lt)
  replace Kxf := Lib.hid (Kxf.out.below hb Kxf.out.lt)
  replace Kym := Lib.hid (Kym.out.below hb Kym.out.lt)
  replace Kyd := Lib.hid (Kyd.out.below hb Kyd.out.lt)
  replace Rm := Lib.hid (Rm.out.mono hb)
  replace Rd := Lib.hid (Rd.out.mono hb)
  replace Ru := Lib.hid (Ru.out.mono hb)
  replace Rv := Lib.hid (Rv.out.mono hb)
  replace Rf := Lib.hid (Rf.out.mono hb)
  replace Rmq := Lib.hid (Rmq.out.mono hb)
  replace Rdq := Lib.hid (Rdq.out.mono hb)
  replace B := Lib.hid (B.out.trans (hb.mono B.out.size))
  clear bbc0 bbc1 bpc0 bpc1 bxmc0 bxmc1 bxdc0 bxdc1 bxuc0 bxuc1 bxvc0 bxvc1 bxfc0 bxfc1 bymc0 bymc1 bymc2 bydc0 bydc1 bydc2
  clear hb hr
  obtain ⟨bbc0, bbc1⟩ := twob Kb.out
  obtain ⟨bpc0, bpc1⟩ := twob Kp.out
  obtain ⟨bxmc0, bxmc1⟩ := twob Kxm.out
  obtain ⟨bxdc0, bxdc1⟩ := twob Kxd.out
  obtain ⟨bxuc0, bxuc1⟩ := twob Kxu.out
  obtain ⟨bxvc0, bxvc1⟩ := twob Kxv.out
  obtain ⟨bxfc0, bxfc1⟩ := twob Kxf.out
  obtain ⟨bymc0, bymc1, bymc2⟩ := three Kym.out
  obtain ⟨bydc0, bydc1, bydc2⟩ := three Kyd.out
  obtain ⟨gyu, hgyu⟩ : ∃ G, w15.heap.size = G := ⟨_, rfl⟩
  have Kyu := Lib.hid (show Blk (w15.alloc (.cells #[.int .i64 lu, .slice bu Mu ju, .int .i64 eu] 51)) gyu 51 #[.int .i64 lu, .slice bu Mu ju, .int .i64 eu] from Blk.new' w15 _ _ _ hgyu rfl)
  have Nbyu := Lib.hid (show G < gyu from by rw [← hgyu]; exact Kb.out.lt)
  replace Kb := Lib.hid (Kb.out.alloc (.cells #[.int .i64 lu, .slice bu Mu ju, .int .i64 eu] 51))
  have Npyu := Lib.hid (show G + 1 < gyu from by rw [← hgyu]; exact Kp.out.lt)
  replace Kp := Lib.hid (Kp.out.alloc (.cells #[.int .i64 lu, .slice bu Mu ju, .int .i64 eu] 51))
  have Nxmyu := Lib.hid (show gxm < gyu from by rw [← hgyu]; exact Kxm.out.lt)
  replace Kxm := Lib.hid (Kxm.out.alloc (.cells #[.int .i64 lu, .slice bu Mu ju, .int .i64 eu] 51))
  have Nxdyu := Lib.hid (show gxd < gyu from by rw [← hgyu]; exact Kxd.out.lt)
  replace Kxd := Lib.hid (Kxd.out.alloc (.cells #[.int .i64 lu, .slice bu Mu ju, .int .i64 eu] 51))
  have Nxuyu := Lib.hid (show gxu < gyu from by rw [← hgyu]; exact Kxu.out.lt)
  replace Kxu := Lib.hid (Kxu.out.alloc (.cells #[.int .i64 lu, .slice bu Mu ju, .int .i64 eu] 51))
  have Nxvyu := Lib.hid (show gxv < gyu from by rw [← hgyu]; exact Kxv.out.lt)
  replace Kxv := Lib.hid (Kxv.out.alloc (.cells #[.int .i64 lu, .slice bu Mu ju, .int .i64 eu] 51))
  have Nxfyu := Lib.hid (show gxf < gyu from by rw [← hgyu]; exact Kxf.out.lt)
  replace Kxf := Lib.hid (Kxf.out.alloc (.cells #[.int .i64 lu, .slice bu Mu ju, .int .i64 eu] 51))
  have Nymyu := Lib.hid (show gym < gyu from by rw [← hgyu]; exact Kym.out.lt)
  replace Kym := Lib.hid (Kym.out.alloc (.cells #[.int .i64 lu, .slice bu Mu ju, .int .i64 eu] 51))
  have Nydyu := Lib.hid (show gyd < gyu from by rw [← hgyu]; exact Kyd.out.lt)
  replace Kyd := Lib.hid (Kyd.out.alloc (.cells #[.int .i64 lu, .slice bu Mu ju, .int .i64 eu] 51))
  replace Rm := Lib.hid (Rm.out.mono ((Below.refl _ w15).alloc (Nat.le_refl _) (.cells #[.int .i64 lu, .slice bu Mu ju, .int .i64 eu] 51)))
  replace Rd := Lib.hid (Rd.out.mono ((Below.refl _ w15).alloc (Nat.le_refl _) (.cells #[.int .i64 lu, .slice bu Mu ju, .int .i64 eu] 51)))
  replace Ru := Lib.hid (Ru.out.mono ((Below.refl _ w15).alloc (Nat.le_refl _) (.cells #[.int .i64 lu, .slice bu Mu ju, .int .i64 eu] 51)))
  replace Rv := Lib.hid (Rv.out.mono ((Below.refl _ w15).alloc (Nat.le_refl _) (.cells #[.int .i64 lu, .slice bu Mu ju, .int .i64 eu] 51)))
  replace Rf := Lib.hid (Rf.out.mono ((Below.refl _ w15).alloc (Nat.le_refl _) (.cells #[.int .i64 lu, .slice bu Mu ju, .int .i64 eu] 51)))
  replace Rmq := Lib.hid (Rmq.out.mono ((Below.refl _ w15).alloc (Nat.le_refl _) (.cells #[.int .i64 lu, .slice bu Mu ju, .int .i64 eu] 51)))
  replace Rdq := Lib.hid (Rdq.out.mono ((Below.refl _ w15).alloc (Nat.le_refl _) (.cells #[.int .i64 lu, .slice bu Mu ju, .int .i64 eu] 51)))
  replace Ruq := Lib.hid (Ruq.out.mono ((Below.refl _ w15).alloc (Nat.le_refl _) (.cells #[.int .i64 lu, .slice bu Mu ju, .int .i64 eu] 51)))
  have Lyu := Lib.hid (show w.heap.size ≤ gyu from by rw [← hgyu]; exact B.out.size)
  replace B := Lib.hid (B.out.alloc B.out.size (.cells #[.int .i64 lu, .slice bu Mu ju, .int .i64 eu] 51))
  go_upto_region 11 with (fail)
  try rw [hgyu]
  generalize hw : w15.alloc (.cells #[.int .i64 lu, .slice bu Mu ju, .int .i64 eu] 51) = w16 at Kb Kp Kxm Kxd Kxu Kxv Kxf Kym Kyd Kyu Rm Rd Ru Rv Rf Rmq Rdq Ruq B ⊢
  clear bbc0 bbc1 bpc0 bpc1 bxmc0 bxmc1 bxdc0 bxdc1 bxuc0 bxuc1 bxvc0 bxvc1 bxfc0 bxfc1 bymc0 bymc1 bymc2 bydc0 bydc1 bydc2
  clear hw hgyu
  obtain ⟨bbc0, bbc1⟩ := twob Kb.out
  obtain ⟨bpc0, bpc1⟩ := twob Kp.out
  obtain ⟨bxmc0, bxmc1⟩ := twob Kxm.out
  obtain ⟨bxdc0, bxdc1⟩ := twob Kxd.out
  obtain ⟨bxuc0, bxuc1⟩ := twob Kxu.out
  obtain ⟨bxvc0, bxvc1⟩ := twob Kxv.out
  obtain ⟨bxfc0, bxfc1⟩ := twob Kxf.out
  obtain ⟨bymc0, bymc1, bymc2⟩ := three Kym.out
  obtain ⟨bydc0, bydc1, bydc2⟩ := three Kyd.out
  obtain ⟨byuc0, byuc1, byuc2⟩ := three Kyu.out
  go_wp2_with fail
  refine (Qv.out _ (HP.out.mono B.out)).mono ?_
  rintro e w17 ⟨⟨bv, jv, rfl, hr⟩, hb⟩
  have Rvq := Lib.hid hr
  replace Kb := Lib.hid (Kb.out.below hb Kb.out.lt)
  replace Kp := Lib.hid (Kp.out.below hb Kp.out.lt)
  replace Kxm := Lib.hid (Kxm.out.below hb Kxm.out.lt)
  replace Kxd := Lib.hid (Kxd.out.below hb Kxd.out.lt)
  replace Kxu := Lib.hid (Kxu.out.below hb Kxu.out.lt)
  replace Kxv := Lib.hid (Kxv.out.below hb Kxv.out.lt)
  replace Kxf := Lib.hid (Kxf.out.below hb Kxf.out.lt)
  replace Kym := Lib.hid (Kym.out.below hb Kym.out.lt)
  replace Kyd := Lib.hid (Kyd.out.below hb Kyd.out.lt)
  replace Kyu := Lib.hid (Kyu.out.below hb Kyu.out.lt)
  replace Rm := Lib.hid (Rm.out.mono hb)
  replace Rd := Lib.hid (Rd.out.mono hb)
  replace Ru := Lib.hid (Ru.out.mono hb)
  replace Rv := Lib.hid (Rv.out.mono hb)
  replace Rf := Lib.hid (Rf.out.mono hb)
  replace Rmq := Lib.hid (Rmq.out.mono hb)
  replace Rdq := Lib.hid (Rdq.out.mono hb)
  replace Ruq := Lib.hid (Ruq.out.mono hb)
  replace B := Lib.hid (B.out.trans (hb.mono B.out.size))
  clear bbc0 bbc1 bpc0 bpc1 bxmc0 bxmc1 bxdc0 bxdc1 bxuc0 bxuc1 bxvc0 bxvc1 bxfc0 bxfc1 bymc0 bymc1 bymc2 bydc0 bydc1 bydc2 byuc0 byuc1 byuc2
  clear hb hr
  obtain ⟨bbc0, bbc1⟩ := twob Kb.out
  obtain ⟨bpc0, bpc1⟩ := twob Kp.out
  obtain ⟨bxmc0, bxmc1⟩ := twob Kxm.out
  obtain ⟨bxdc0, bxdc1⟩ := twob Kxd.out
  obtain ⟨bxuc0, bxuc1⟩ := twob Kxu.out
  obtain ⟨bxvc0, bxvc1⟩ := twob Kxv.out
  obtain ⟨bxfc0, bxfc1⟩ := twob Kxf.out
  obtain ⟨bymc0, bymc1, bymc2⟩ := three Kym.out
  obtain ⟨bydc0, bydc1, bydc2⟩ := three Kyd.out
  obtain ⟨byuc0, byuc1, byuc2⟩ := three Kyu.out
  obtain ⟨gyv, hgyv⟩ : ∃ G, w17.heap.size = G := ⟨_, rfl⟩
  have Kyv := Lib.hid (show Blk (w17.alloc (.cells #[.int .i64 lv, .slice bv Mv jv, .int .i64 ev] 51)) gyv 51 #[.int .i64 lv, .slice bv Mv jv, .int .i64 ev] from Blk.new' w17 _ _ _ hgyv rfl)
  have Nbyv := Lib.hid (show G < gyv from by rw [← hgyv]; exact Kb.out.lt)
  replace Kb := Lib.hid (Kb.out.alloc (.cells #[.int .i64 lv, .slice bv Mv jv, .int .i64 ev] 51))
  have Npyv := Lib.hid (show G + 1 < gyv from by rw [← hgyv]; exact Kp.out.lt)
  replace Kp := Lib.hid (Kp.out.alloc (.cells #[.int .i64 lv, .slice bv Mv jv, .int .i64 ev] 51))
  have Nxmyv := Lib.hid (show gxm < gyv from by rw [← hgyv]; exact Kxm.out.lt)
  replace Kxm := Lib.hid (Kxm.out.alloc (.cells #[.int .i64 lv, .slice bv Mv jv, .int .i64 ev] 51))
  have Nxdyv := Lib.hid (show gxd < gyv from by rw [← hgyv]; exact Kxd.out.lt)
  replace Kxd := Lib.hid (Kxd.out.alloc (.cells #[.int .i64 lv, .slice bv Mv jv, .int .i64 ev] 51))
  have Nxuyv := Lib.hid (show gxu < gyv from by rw [← hgyv]; exact Kxu.out.lt)
  replace Kxu := Lib.hid (Kxu.out.alloc (.cells #[.int .i64 lv, .slice bv Mv jv, .int .i64 ev] 51))
  have Nxvyv := Lib.hid (show gxv < gyv from by rw [← hgyv]; exact Kxv.out.lt)
  replace Kxv := Lib.hid (Kxv.out.alloc (.cells #[.int .i64 lv, .slice bv Mv jv, .int .i64 ev] 51))
  have Nxfyv := Lib.hid (show gxf < gyv from by rw [← hgyv]; exact Kxf.out.lt)
  replace Kxf := Lib.hid (Kxf.out.alloc (.cells #[.int .i64 lv, .slice bv Mv jv, .int .i64 ev] 51))
  have Nymyv := Lib.hid (show gym < gyv from by rw [← hgyv]; exact Kym.out.lt)
  replace Kym := Lib.hid (Kym.out.alloc (.cells #[.int .i64 lv, .slice bv Mv jv, .int .i64 ev] 51))
  have Nydyv := Lib.hid (show gyd < gyv from by rw [← hgyv]; exact Kyd.out.lt)
  replace Kyd := Lib.hid (Kyd.out.alloc (.cells #[.int .i64 lv, .slice bv Mv jv, .int .i64 ev] 51))
  have Nyuyv := Lib.hid (show gyu < gyv from by rw [← hgyv]; exact Kyu.out.lt)
  replace Kyu := Lib.hid (Kyu.out.alloc (.cells #[.int .i64 lv, .slice bv Mv jv, .int .i64 ev] 51))
  replace Rm := Lib.hid (Rm.out.mono ((Below.refl _ w17).alloc (Nat.le_refl _) (.cells #[.int .i64 lv, .slice bv Mv jv, .int .i64 ev] 51)))
  replace Rd := Lib.hid (Rd.out.mono ((Below.refl _ w17).alloc (Nat.le_refl _) (.cells #[.int .i64 lv, .slice bv Mv jv, .int .i64 ev] 51)))
  replace Ru := Lib.hid (Ru.out.mono ((Below.refl _ w17).alloc (Nat.le_refl _) (.cells #[.int .i64 lv, .slice bv Mv jv, .int .i64 ev] 51)))
  replace Rv := Lib.hid (Rv.out.mono ((Below.refl _ w17).alloc (Nat.le_refl _) (.cells #[.int .i64 lv, .slice bv Mv jv, .int .i64 ev] 51)))
  replace Rf := Lib.hid (Rf.out.mono ((Below.refl _ w17).alloc (Nat.le_refl _) (.cells #[.int .i64 lv, .slice bv Mv jv, .int .i64 ev] 51)))
  replace Rmq := Lib.hid (Rmq.out.mono ((Below.refl _ w17).alloc (Nat.le_refl _) (.cells #[.int .i64 lv, .slice bv Mv jv, .int .i64 ev] 51)))
  replace Rdq := Lib.hid (Rdq.out.mono ((Below.refl _ w17).alloc (Nat.le_refl _) (.cells #[.int .i64 lv, .slice bv Mv jv, .int .i64 ev] 51)))
  replace Ruq := Lib.hid (Ruq.out.mono ((Below.refl _ w17).alloc (Nat.le_refl _) (.cells #[.int .i64 lv, .slice bv Mv jv, .int .i64 ev] 51)))
  replace Rvq := Lib.hid (Rvq.out.mono ((Below.refl _ w17).alloc (Nat.le_refl _) (.cells #[.int .i64 lv, .slice bv Mv jv, .int .i64 ev] 51)))
  have Lyv := Lib.hid (show w.heap.size ≤ gyv from by rw [← hgyv]; exact B.out.size)
  replace B := Lib.hid (B.out.alloc B.out.size (.cells #[.int .i64 lv, .slice bv Mv jv, .int .i64 ev] 51))
  go_upto_region 12 with (fail)
  try rw [hgyv]
  generalize hw : w17.alloc (.cells #[.int .i64 lv, .slice bv Mv jv, .int .i64 ev] 51) = w18 at Kb Kp Kxm Kxd Kxu Kxv Kxf Kym Kyd Kyu Kyv Rm Rd Ru Rv Rf Rmq Rdq Ruq Rvq B ⊢
  clear bbc0 bbc1 bpc0 bpc1 bxmc0 bxmc1 bxdc0 bxdc1 bxuc0 bxuc1 bxvc0 bxvc1 bxfc0 bxfc1 bymc0 bymc1 bymc2 bydc0 bydc1 bydc2 byuc0 byuc1 byuc2
  clear hw hgyv
  obtain ⟨bbc0, bbc1⟩ := twob Kb.out
  obtain ⟨bpc0, bpc1⟩ := twob Kp.out
  obtain ⟨bxmc0, bxmc1⟩ := twob Kxm.out
  obtain ⟨bxdc0, bxdc1⟩ := twob Kxd.out
  obtain ⟨bxuc0, bxuc1⟩ := twob Kxu.out
  obtain ⟨bxvc0, bxvc1⟩ := twob Kxv.out
  obtain ⟨bxfc0, bxfc1⟩ := twob Kxf.out
  obtain ⟨bymc0, bymc1, bymc2⟩ := three Kym.out
  obtain ⟨bydc0, bydc1, bydc2⟩ := three Kyd.out
  obtain ⟨byuc0, byuc1, byuc2⟩ := three Kyu.out
  obtain ⟨byvc0, byvc1, byvc2⟩ := three Kyv.out
  go_wp2_with fail
  refine (Qf.out _ (HP.out.mono B.out)).mono ?_
  rintro e w19 ⟨⟨bf, jf, rfl, hr⟩, hb⟩
  have Rfq := Lib.hid hr
  replace Kb := Lib.hid (Kb.out.below hb Kb.out.lt)
  replace Kp := Lib.hid (Kp.out.below hb Kp.out.lt)
  replace Kxm := Lib.hid (Kxm.out.below hb Kxm.out.lt)
  replace Kxd := Lib.hid (Kxd.out.below hb Kxd.out.lt)
  replace Kxu := Lib.hid (Kxu.out.below hb Kxu.out.lt)
  replace Kxv := Lib.hid (Kxv.out.below hb Kxv.out.lt)
  replace Kxf := Lib.hid (Kxf.out.below hb Kxf.out.lt)
  replace Kym := Lib.hid (Kym.out.below hb Kym.out.lt)
  replace Kyd := Lib.hid (Kyd.out.below hb Kyd.out.lt)
  replace Kyu := Lib.hid (Kyu.out.below hb Kyu.out.lt)
  replace Kyv := Lib.hid (Kyv.out.below hb Kyv.out.lt)
  replace Rm := Lib.hid (Rm.out.mono hb)
  replace Rd := Lib.hid (Rd.out.mono hb)
  replace Ru := Lib.hid (Ru.out.mono hb)
  replace Rv := Lib.hid (Rv.out.mono hb)
  replace Rf := Lib.hid (Rf.out.mono hb)
  replace Rmq := Lib.hid (Rmq.out.mono hb)
  replace Rdq := Lib.hid (Rdq.out.mono hb)
  replace Ruq := Lib.hid (Ruq.out.mono hb)
  replace Rvq := Lib.hid (Rvq.out.mono hb)
  replace B := Lib.hid (B.out.trans (hb.mono B.out.size))
  clear bbc0 bbc1 bpc0 bpc1 bxmc0 bxmc1 bxdc0 bxdc1 bxuc0 bxuc1 bxvc0 bxvc1 bxfc0 bxfc1 bymc0 bymc1 bymc2 bydc0 bydc1 bydc2 byuc0 byuc1 byuc2 byvc0 byvc1 byvc2
  clear hb hr
  obtain ⟨bbc0, bbc1⟩ := twob Kb.out
  obtain ⟨bpc0, bpc1⟩ := twob Kp.out
  obtain ⟨bxmc0, bxmc1⟩ := twob Kxm.out
  obtain ⟨bxdc0, bxdc1⟩ := twob Kxd.out
  obtain ⟨bxuc0, bxuc1⟩ := twob Kxu.out
  obtain ⟨bxvc0, bxvc1⟩ := twob Kxv.out
  obtain ⟨bxfc0, bxfc1⟩ := twob Kxf.out
  obtain ⟨bymc0, bymc1, bymc2⟩ := three Kym.out
  obtain ⟨bydc0, bydc1, bydc2⟩ := three Kyd.out
  obtain ⟨byuc0, byuc1, byuc2⟩ := three Kyu.out
  obtain ⟨byvc0, byvc1, byvc2⟩ := three Kyv.out
  obtain ⟨gyf, hgyf⟩ : ∃ G, w19.heap.size = G := ⟨_, rfl⟩
  have Kyf := Lib.hid (show Blk (w19.alloc (.cells #[.int .i64 lf, .slice bf Mf jf, .int .i64 ef] 51)) gyf 51 #[.int .i64 lf, .slice bf Mf jf, .int .i64 ef] from Blk.new' w19 _ _ _ hgyf rfl)
  have Nbyf := Lib.hid (show G < gyf from by rw [← hgyf]; exact Kb.out.lt)
  replace Kb := Lib.hid (Kb.out.alloc (.cells #[.int .i64 lf, .slice bf Mf jf, .int .i64 ef] 51))
  have Npyf := Lib.hid (show G + 1 < gyf from by rw [← hgyf]; exact Kp.out.lt)
  replace Kp := Lib.hid (Kp.out.alloc (.cells #[.int .i64 lf, .slice bf Mf jf, .int .i64 ef] 51))
  have Nxmyf := Lib.hid (show gxm < gyf from by rw [← hgyf]; exact Kxm.out.lt)
  replace Kxm := Lib.hid (Kxm.out.alloc (.cells #[.int .i64 lf, .slice bf Mf jf, .int .i64 ef] 51))
  have Nxdyf := Lib.hid (show gxd < gyf from by rw [← hgyf]; exact Kxd.out.lt)
  replace Kxd := Lib.hid (Kxd.out.alloc (.cells #[.int .i64 lf, .slice bf Mf jf, .int .i64 ef] 51))
  have Nxuyf := Lib.hid (show gxu < gyf from by rw [← hgyf]; exact Kxu.out.lt)
  replace Kxu := Lib.hid (Kxu.out.alloc (.cells #[.int .i64 lf, .slice bf Mf jf, .int .i64 ef] 51))
  have Nxvyf := Lib.hid (show gxv < gyf from by rw [← hgyf]; exact Kxv.out.lt)
  replace Kxv := Lib.hid (Kxv.out.alloc (.cells #[.int .i64 lf, .slice bf Mf jf, .int .i64 ef] 51))
  have Nxfyf := Lib.hid (show gxf < gyf from by rw [← hgyf]; exact Kxf.out.lt)
  replace Kxf := Lib.hid (Kxf.out.alloc (.cells #[.int .i64 lf, .slice bf Mf jf, .int .i64 ef] 51))
  have Nymyf := Lib.hid (show gym < gyf from by rw [← hgyf]; exact Kym.out.lt)
  replace Kym := Lib.hid (Kym.out.alloc (.cells #[.int .i64 lf, .slice bf Mf jf, .int .i64 ef] 51))
  have Nydyf := Lib.hid (show gyd < gyf from by rw [← hgyf]; exact Kyd.out.lt)
  replace Kyd := Lib.hid (Kyd.out.alloc (.cells #[.int .i64 lf, .slice bf Mf jf, .int .i64 ef] 51))
  have Nyuyf := Lib.hid (show gyu < gyf from by rw [← hgyf]; exact Kyu.out.lt)
  replace Kyu := Lib.hid (Kyu.out.alloc (.cells #[.int .i64 lf, .slice bf Mf jf, .int .i64 ef] 51))
  have Nyvyf := Lib.hid (show gyv < gyf from by rw [← hgyf]; exact Kyv.out.lt)
  replace Kyv := Lib.hid (Kyv.out.alloc (.cells #[.int .i64 lf, .slice bf Mf jf, .int .i64 ef] 51))
  replace Rm := Lib.hid (Rm.out.mono ((Below.refl _ w19).alloc (Nat.le_refl _) (.cells #[.int .i64 lf, .slice bf Mf jf, .int .i64 ef] 51)))
  replace Rd := Lib.hid (Rd.out.mono ((Below.refl _ w19).alloc (Nat.le_refl _) (.cells #[.int .i64 lf, .slice bf Mf jf, .int .i64 ef] 51)))
  replace Ru := Lib.hid (Ru.out.mono ((Below.refl _ w19).alloc (Nat.le_refl _) (.cells #[.int .i64 lf, .slice bf Mf jf, .int .i64 ef] 51)))
  replace Rv := Lib.hid (Rv.out.mono ((Below.refl _ w19).alloc (Nat.le_refl _) (.cells #[.int .i64 lf, .slice bf Mf jf, .int .i64 ef] 51)))
  replace Rf := Lib.hid (Rf.out.mono ((Below.refl _ w19).alloc (Nat.le_refl _) (.cells #[.int .i64 lf, .slice bf Mf jf, .int .i64 ef] 51)))
  replace Rmq := Lib.hid (Rmq.out.mono ((Below.refl _ w19).alloc (Nat.le_refl _) (.cells #[.int .i64 lf, .slice bf Mf jf, .int .i64 ef] 51)))
  replace Rdq := Lib.hid (Rdq.out.mono ((Below.refl _ w19).alloc (Nat.le_refl _) (.cells #[.int .i64 lf, .slice bf Mf jf, .int .i64 ef] 51)))
  replace Ruq := Lib.hid (Ruq.out.mono ((Below.refl _ w19).alloc (Nat.le_refl _) (.cells #[.int .i64 lf, .slice bf Mf jf, .int .i64 ef] 51)))
  replace Rvq := Lib.hid (Rvq.out.mono ((Below.refl _ w19).alloc (Nat.le_refl _) (.cells #[.int .i64 lf, .slice bf Mf jf, .int .i64 ef] 51)))
  replace Rfq := Lib.hid (Rfq.out.mono ((Below.refl _ w19).alloc (Nat.le_refl _) (.cells #[.int .i64 lf, .slice bf Mf jf, .int .i64 ef] 51)))
  have Lyf := Lib.hid (show w.heap.size ≤ gyf from by rw [← hgyf]; exact B.out.size)
  replace B := Lib.hid (B.out.alloc B.out.size (.cells #[.int .i64 lf, .slice bf Mf jf, .int .i64 ef] 51))
  go_upto_region 13 with (fail)
  try rw [hgyf]
  generalize hw : w19.alloc (.cells #[.int .i64 lf, .slice bf Mf jf, .int .i64 ef] 51) = w20 at Kb Kp Kxm Kxd Kxu Kxv Kxf Kym Kyd Kyu Kyv Kyf Rm Rd Ru Rv Rf Rmq Rdq Ruq Rvq Rfq B ⊢
  clear bbc0 bbc1 bpc0 bpc1 bxmc0 bxmc1 bxdc0 bxdc1 bxuc0 bxuc1 bxvc0 bxvc1 bxfc0 bxfc1 bymc0 bymc1 bymc2 bydc0 bydc1 bydc2 byuc0 byuc1 byuc2 byvc0 byvc1 byvc2
  clear hw hgyf
  obtain ⟨bbc0, bbc1⟩ := twob Kb.out
  obtain ⟨bpc0, bpc1⟩ := twob Kp.out
  obtain ⟨bxmc0, bxmc1⟩ := twob Kxm.out
  obtain ⟨bxdc0, bxdc1⟩ := twob Kxd.out
  obtain ⟨bxuc0, bxuc1⟩ := twob Kxu.out
  obtain ⟨bxvc0, bxvc1⟩ := twob Kxv.out
  obtain ⟨bxfc0, bxfc1⟩ := twob Kxf.out
  obtain ⟨bymc0, bymc1, bymc2⟩ := three Kym.out
  obtain ⟨bydc0, bydc1, bydc2⟩ := three Kyd.out
  obtain ⟨byuc0, byuc1, byuc2⟩ := three Kyu.out
  obtain ⟨byvc0, byvc1, byvc2⟩ := three Kyv.out
  obtain ⟨byfc0, byfc1, byfc2⟩ := three Kyf.out
  clear bbc0 bbc1 bpc0 bpc1 bxmc0 bxmc1 bxdc0 bxdc1 bxuc0 bxuc1 bxvc0 bxvc1 bxfc0 bxfc1 bymc0 bymc1 bymc2 bydc0 bydc1 bydc2 byuc0 byuc1 byuc2 byvc0 byvc1 byvc2 byfc0 byfc1 byfc2
  have HP2 := Lib.hid (HP.out.mono B.out)
  have ZPV := Lib.hid (fun (d : Nat) (os : Array Obj) => PV.out (grow (redrawn w20 d) os) (HP2.out.mono (below_regrown _ _ _)))
  have ZQV := Lib.hid (fun (d : Nat) (os : Array Obj) => QV.out (grow (redrawn w20 d) os) (HP2.out.mono (below_regrown _ _ _)))
  have ZSm := Lib.hid (fun (d : Nat) (os : Array Obj) => Sm.out am bm km jm (grow (redrawn w20 d) os) (Rm.out.mono (below_regrown _ _ _)) (Rmq.out.mono (below_regrown _ _ _)))
  have ZSd := Lib.hid (fun (d : Nat) (os : Array Obj) => Sd.out ad bd kd jd (grow (redrawn w20 d) os) (Rd.out.mono (below_regrown _ _ _)) (Rdq.out.mono (below_regrown _ _ _)))
  have ZSu := Lib.hid (fun (d : Nat) (os : Array Obj) => Su.out au bu ku ju (grow (redrawn w20 d) os) (Ru.out.mono (below_regrown _ _ _)) (Ruq.out.mono (below_regrown _ _ _)))
  obtain ⟨bbc0, bbc1⟩ := twob Kb.out
  obtain ⟨bpc0, bpc1⟩ := twob Kp.out
  obtain ⟨bxmc0, bxmc1⟩ := twob Kxm.out
  obtain ⟨bxdc0, bxdc1⟩ := twob Kxd.out
  obtain ⟨bxuc0, bxuc1⟩ := twob Kxu.out
  obtain ⟨bxvc0, bxvc1⟩ := twob Kxv.out
  obtain ⟨bxfc0, bxfc1⟩ := twob Kxf.out
  obtain ⟨bymc0, bymc1, bymc2⟩ := three Kym.out
  obtain ⟨bydc0, bydc1, bydc2⟩ := three Kyd.out
  obtain ⟨byuc0, byuc1, byuc2⟩ := three Kyu.out
  obtain ⟨byvc0, byvc1, byvc2⟩ := three Kyv.out
  obtain ⟨byfc0, byfc1, byfc2⟩ := three Kyf.out
  have gc := grow_cell3
  have zzb := Kb.out.lt
  have zzp := Kp.out.lt
  have zzxm := Kxm.out.lt
  have zzxd := Kxd.out.lt
  have zzxu := Kxu.out.lt
  have zzxv := Kxv.out.lt
  have zzxf := Kxf.out.lt
  have zzym := Kym.out.lt
  have zzyd := Kyd.out.lt
  have zzyu := Kyu.out.lt
  have zzyv := Kyv.out.lt
  have zzyf := Kyf.out.lt
  go_wp2_with fail
  refine wp_region_quiet_below (by kernel_rfl) (by kernel_rfl) ?_
  repeat (go_big_quiet_step (first | (with_reducible exact Calls.regrown_of (ZPV.out _ _)) | (with_reducible exact Calls.regrown_of (ZQV.out _ _)) | (with_reducible exact Calls.regrown_of (ZSm.out _ _)) | (with_reducible exact Calls.regrown_of (ZSd.out _ _)) | (with_reducible exact Calls.regrown_of (ZSu.out _ _))))
  refine wpQuiet_nil ?_
  intro w21 hw'
  obtain ⟨⟨dq, osq⟩, hw''⟩ := hw'
  have hb := below_of_grow3 hw''
  clear hw'' gc zzb zzp zzxm zzxd zzxu zzxv zzxf zzym zzyd zzyu zzyv zzyf
  replace Kb := Lib.hid (Kb.out.below hb Kb.out.lt)
  replace Kp := Lib.hid (Kp.out.below hb Kp.out.lt)
  replace Kxm := Lib.hid (Kxm.out.below hb Kxm.out.lt)
  replace Kxd := Lib.hid (Kxd.out.below hb Kxd.out.lt)
  replace Kxu := Lib.hid (Kxu.out.below hb Kxu.out.lt)
  replace Kxv := Lib.hid (Kxv.out.below hb Kxv.out.lt)
  replace Kxf := Lib.hid (Kxf.out.below hb Kxf.out.lt)
  replace Kym := Lib.hid (Kym.out.below hb Kym.out.lt)
  replace Kyd := Lib.hid (Kyd.out.below hb Kyd.out.lt)
  replace Kyu := Lib.hid (Kyu.out.below hb Kyu.out.lt)
  replace Kyv := Lib.hid (Kyv.out.below hb Kyv.out.lt)
  replace Kyf := Lib.hid (Kyf.out.below hb Kyf.out.lt)
  replace Rm := Lib.hid (Rm.out.mono hb)
  replace Rd := Lib.hid (Rd.out.mono hb)
  replace Ru := Lib.hid (Ru.out.mono hb)
  replace Rv := Lib.hid (Rv.out.mono hb)
  replace Rf := Lib.hid (Rf.out.mono hb)
  replace Rmq := Lib.hid (Rmq.out.mono hb)
  replace Rdq := Lib.hid (Rdq.out.mono hb)
  replace Ruq := Lib.hid (Ruq.out.mono hb)
  replace Rvq := Lib.hid (Rvq.out.mono hb)
  replace Rfq := Lib.hid (Rfq.out.mono hb)
  replace B := Lib.hid (B.out.trans (hb.mono B.out.size))
  clear hb
  clear bbc0 bbc1 bpc0 bpc1 bxmc0 bxmc1 bxdc0 bxdc1 bxuc0 bxuc1 bxvc0 bxvc1 bxfc0 bxfc1 bymc0 bymc1 bymc2 bydc0 bydc1 bydc2 byuc0 byuc1 byuc2 byvc0 byvc1 byvc2 byfc0 byfc1 byfc2
  clear HP2 ZPV ZQV ZSm ZSd ZSu
  have HP2 := Lib.hid (HP.out.mono B.out)
  have QN := Lib.hid (fun (d : Nat) (os : Array Obj) => SN.out (grow (redrawn w21 d) os))
  have ZPLT := Lib.hid (fun (d : Nat) (os : Array Obj) => PLT.out (grow (redrawn w21 d) os) (HP2.out.mono (below_regrown _ _ _)))
  have ZQLT := Lib.hid (fun (d : Nat) (os : Array Obj) => QLT.out (grow (redrawn w21 d) os) (HP2.out.mono (below_regrown _ _ _)))
  have ZPBK := Lib.hid (fun (d : Nat) (os : Array Obj) => PBK.out (grow (redrawn w21 d) os) (HP2.out.mono (below_regrown _ _ _)))
  have ZQBK := Lib.hid (fun (d : Nat) (os : Array Obj) => QBK.out (grow (redrawn w21 d) os) (HP2.out.mono (below_regrown _ _ _)))
  have ZSv := Lib.hid (fun (d : Nat) (os : Array Obj) => Sv.out av bv kv jv (grow (redrawn w21 d) os) (Rv.out.mono (below_regrown _ _ _)) (Rvq.out.mono (below_regrown _ _ _)))
  have ZSf := Lib.hid (fun (d : Nat) (os : Array Obj) => Sf.out af bf kf jf (grow (redrawn w21 d) os) (Rf.out.mono (below_regrown _ _ _)) (Rfq.out.mono (below_regrown _ _ _)))
  obtain ⟨bbc0, bbc1⟩ := twob Kb.out
  obtain ⟨bpc0, bpc1⟩ := twob Kp.out
  obtain ⟨bxmc0, bxmc1⟩ := twob Kxm.out
  obtain ⟨bxdc0, bxdc1⟩ := twob Kxd.out
  obtain ⟨bxuc0, bxuc1⟩ := twob Kxu.out
  obtain ⟨bxvc0, bxvc1⟩ := twob Kxv.out
  obtain ⟨bxfc0, bxfc1⟩ := twob Kxf.out
  obtain ⟨bymc0, bymc1, bymc2⟩ := three Kym.out
  obtain ⟨bydc0, bydc1, bydc2⟩ := three Kyd.out
  obtain ⟨byuc0, byuc1, byuc2⟩ := three Kyu.out
  obtain ⟨byvc0, byvc1, byvc2⟩ := three Kyv.out
  obtain ⟨byfc0, byfc1, byfc2⟩ := three Kyf.out
  have gc := grow_cell3
  have zzb := Kb.out.lt
  have zzp := Kp.out.lt
  have zzxm := Kxm.out.lt
  have zzxd := Kxd.out.lt
  have zzxu := Kxu.out.lt
  have zzxv := Kxv.out.lt
  have zzxf := Kxf.out.lt
  have zzym := Kym.out.lt
  have zzyd := Kyd.out.lt
  have zzyu := Kyu.out.lt
  have zzyv := Kyv.out.lt
  have zzyf := Kyf.out.lt
  go_wp2_with fail
  refine wp_region_quiet_below (by kernel_rfl) (by kernel_rfl) ?_
  repeat (go_big_quiet_step (first | (with_reducible exact Calls.regrown_of (QN.out _ _)) | (with_reducible exact Calls.regrown_of (ZPLT.out _ _)) | (with_reducible exact Calls.regrown_of (ZQLT.out _ _)) | (with_reducible exact Calls.regrown_of (ZPBK.out _ _)) | (with_reducible exact Calls.regrown_of (ZQBK.out _ _)) | (with_reducible exact Calls.regrown_of (ZSv.out _ _)) | (with_reducible exact Calls.regrown_of (ZSf.out _ _))))
  refine wpQuiet_nil ?_
  intro w22 hw'
  obtain ⟨⟨dq, osq⟩, hw''⟩ := hw'
  have hb := below_of_grow3 hw''
  clear hw'' gc zzb zzp zzxm zzxd zzxu zzxv zzxf zzym zzyd zzyu zzyv zzyf
  replace Kb := Lib.hid (Kb.out.below hb Kb.out.lt)
  replace Kp := Lib.hid (Kp.out.below hb Kp.out.lt)
  replace Kxm := Lib.hid (Kxm.out.below hb Kxm.out.lt)
  replace Kxd := Lib.hid (Kxd.out.below hb Kxd.out.lt)
  replace Kxu := Lib.hid (Kxu.out.below hb Kxu.out.lt)
  replace Kxv := Lib.hid (Kxv.out.below hb Kxv.out.lt)
  replace Kxf := Lib.hid (Kxf.out.below hb Kxf.out.lt)
  replace Kym := Lib.hid (Kym.out.below hb Kym.out.lt)
  replace Kyd := Lib.hid (Kyd.out.below hb Kyd.out.lt)
  replace Kyu := Lib.hid (Kyu.out.below hb Kyu.out.lt)
  replace Kyv := Lib.hid (Kyv.out.below hb Kyv.out.lt)
  replace Kyf := Lib.hid (Kyf.out.below hb Kyf.out.lt)
  replace Rm := Lib.hid (Rm.out.mono hb)
  replace Rd := Lib.hid (Rd.out.mono hb)
  replace Ru := Lib.hid (Ru.out.mono hb)
  replace Rv := Lib.hid (Rv.out.mono hb)
  replace Rf := Lib.hid (Rf.out.mono hb)
  replace Rmq := Lib.hid (Rmq.out.mono hb)
  replace Rdq := Lib.hid (Rdq.out.mono hb)
  replace Ruq := Lib.hid (Ruq.out.mono hb)
  replace Rvq := Lib.hid (Rvq.out.mono hb)
  replace Rfq := Lib.hid (Rfq.out.mono hb)
  replace B := Lib.hid (B.out.trans (hb.mono B.out.size))
  clear hb
  clear bbc0 bbc1 bpc0 bpc1 bxmc0 bxmc1 bxdc0 bxdc1 bxuc0 bxuc1 bxvc0 bxvc1 bxfc0 bxfc1 bymc0 bymc1 bymc2 bydc0 bydc1 bydc2 byuc0 byuc1 byuc2 byvc0 byvc1 byvc2 byfc0 byfc1 byfc2
  go_wp2
  go_ret
  exact ⟨rfl, B.out⟩
set_option maxRecDepth 100000 in
set_option maxHeartbeats 8000000 in
theorem law4_full (len : Int) (a : Option Addr) (c : Nat) (l : List Rw) (wi n : Int) (lo hi : Int) (w : World) (hp : RwA w a l) (hl : l.length ≤ 10001) (h : 40 < l.length) (h2 : ¬ l.length < 10000) : Calls Try.prog 4 #[.agg #[.int .i64 len, .slice a l.length c], .int .i64 wi, .int .i64 n, per lo hi] w fun e w' => e = .returned (.bool true) ∧ Below w.heap.size w w' := by
  have HP := Lib.hid hp
  have SN := Lib.hid (fun X : World => sanity_any X)
  obtain ⟨N, hN⟩ : ∃ N, l.length = N := ⟨_, rfl⟩
  rw [hN] at h h2
  obtain ⟨lm, Lm, em, hLm, Pm, Qm⟩ := newp_both len a c l
  have Pm := Lib.hid Pm
  have Qm := Lib.hid Qm
  have Sm := Lib.hid (fun (a b : Option Addr) (c c2 : Nat) (X : World) (q : RwA X a Lm) (q2 : RwA X b Lm) => same_purse lm a b c c2 Lm X q q2 hLm)
  obtain ⟨ld, Ld, ed, hLd, Pd, Qd⟩ := recv_both len wi n a c l (by omega)
  have Pd := Lib.hid Pd
  have Qd := Lib.hid Qd
  have Sd := Lib.hid (fun (a b : Option Addr) (c c2 : Nat) (X : World) (q : RwA X a Ld) (q2 : RwA X b Ld) => same_purse ld a b c c2 Ld X q q2 hLd)
  obtain ⟨lu, Lu, eu, hLu, Pu, Qu⟩ := spend_both len lo hi a c l (by omega)
  have Pu := Lib.hid Pu
  have Qu := Lib.hid Qu
  have Su := Lib.hid (fun (a b : Option Addr) (c c2 : Nat) (X : World) (q : RwA X a Lu) (q2 : RwA X b Lu) => same_purse lu a b c c2 Lu X q q2 hLu)
  obtain ⟨lv, Lv, ev, hLv, Pv, Qv⟩ := give_both len wi n a c l (by omega)
  have Pv := Lib.hid Pv
  have Qv := Lib.hid Qv
  have Sv := Lib.hid (fun (a b : Option Addr) (c c2 : Nat) (X : World) (q : RwA X a Lv) (q2 : RwA X b Lv) => same_purse lv a b c c2 Lv X q q2 hLv)
  obtain ⟨lf, Lf, ef, hLf, Pf, Qf⟩ := drop_both len lo hi a c l (by omega)
  have Pf := Lib.hid Pf
  have Qf := Lib.hid Qf
  have Sf := Lib.hid (fun (a b : Option Addr) (c c2 : Nat) (X : World) (q : RwA X a Lf) (q2 : RwA X b Lf) => same_purse lf a b c c2 Lf X q q2 hLf)
  obtain ⟨vV, PV, QV⟩ := validp_both len a c l (by omega)
  have PV := Lib.hid PV
  have QV := Lib.hid QV
  obtain ⟨vLT, PLT, QLT⟩ := left_both len wi a c l (by omega)
  have PLT := Lib.hid PLT
  have QLT := Lib.hid QLT
  obtain ⟨vBK, PBK, QBK⟩ := back_both len wi a c l (by omega)
  have PBK := Lib.hid PBK
  have QBK := Lib.hid QBK
  simp only [hN] at Pd Qd Pu Qu Pv Qv Pf Qf PV QV PLT QLT PBK QBK
  rw [hN]
  have t1 : decide ((40 : Int) < (N : Int)) = true := decide_eq_true (by omega)
  have t2 : decide ((N : Int) < (10000 : Int)) = false := decide_eq_false (by omega)
  have t3 : decide ((10001 : Int) < (N : Int)) = false := decide_eq_false (by omega)
  clear hp hN hl hLm hLd hLu hLv hLf h h2
  obtain ⟨Mm, hMm⟩ : ∃ M, Lm.length = M := ⟨_, rfl⟩
  simp only [hMm] at Pm Qm Sm
  clear hMm
  obtain ⟨Md, hMd⟩ : ∃ M, Ld.length = M := ⟨_, rfl⟩
  simp only [hMd] at Pd Qd Sd
  clear hMd
  obtain ⟨Mu, hMu⟩ : ∃ M, Lu.length = M := ⟨_, rfl⟩
  simp only [hMu] at Pu Qu Su
  clear hMu
  obtain ⟨Mv, hMv⟩ : ∃ M, Lv.length = M := ⟨_, rfl⟩
  simp only [hMv] at Pv Qv Sv
  clear hMv
  obtain ⟨Mf, hMf⟩ : ∃ M, Lf.length = M := ⟨_, rfl⟩
  simp only [hMf] at Pf Qf Sf
  clear hMf
  go_enter Try.func4, Try.ntmps4
  obtain ⟨G, hG⟩ : ∃ G, w.heap.size = G := ⟨_, rfl⟩
  have HG := Lib.hid hG
  have Kb := Lib.hid (show Blk ((w.alloc (.cells #[.int .i64 len, .slice a N c] 45)).alloc (.cells #[.int .i64 lo, .int .i64 hi] 26)) (G) 45 #[.int .i64 len, .slice a N c] from (Blk.new' _ _ _ _ hG rfl).alloc _)
  have Kp := Lib.hid (show Blk ((w.alloc (.cells #[.int .i64 len, .slice a N c] 45)).alloc (.cells #[.int .i64 lo, .int .i64 hi] 26)) (G + 1) 26 #[.int .i64 lo, .int .i64 hi] from Blk.new' _ _ _ _ (by rw [World.size_alloc, hG]) rfl)
  have B := Lib.hid (show Below w.heap.size w ((w.alloc (.cells #[.int .i64 len, .slice a N c] 45)).alloc (.cells #[.int .i64 lo, .int .i64 hi] 26)) by (repeat' (first | (with_reducible exact Below.refl _ _) | (with_reducible assumption) | (with_reducible refine Below.alloc ?_ ?_ _) | (with_reducible refine Below.drew ?_) | (with_reducible refine below_dn ?_) | (with_reducible refine Below.setCell ?_ ?_ _) | (with_reducible exact Nat.le_refl _) | omega | (simp only [World.size_alloc, World.size_setCell, World.size_drew]; omega) | (simp; omega) | (simp; done))))
  go_upto_region 1 with (fail)
  try rw [hG]
  generalize hw0 : ((w.alloc (.cells #[.int .i64 len, .slice a N c] 45)).alloc (.cells #[.int .i64 lo, .int .i64 hi] 26)) = w0 at Kb Kp B ⊢
  clear hw0 hG
  obtain ⟨bbc0, bbc1⟩ := twob Kb.out
  obtain ⟨bpc0, bpc1⟩ := twob Kp.out
  go_wp2_with fail
  refine (Pm.out _ (HP.out.mono B.out)).mono ?_
  rintro e w1 ⟨⟨am, km, rfl, hr⟩, hb⟩
  have Rm := Lib.hid hr
  replace Kb := Lib.hid (Kb.out.below hb Kb.out.lt)
  replace Kp := Lib.hid (Kp.out.below hb Kp.out.lt)
  replace B := Lib.hid (B.out.trans (hb.mono B.out.size))
  clear bbc0 bbc1 bpc0 bpc1
  clear hb hr
  obtain ⟨bbc0, bbc1⟩ := twob Kb.out
  obtain ⟨bpc0, bpc1⟩ := twob Kp.out
  obtain ⟨gxm, hgxm⟩ : ∃ G, w1.heap.size = G := ⟨_, rfl⟩
  have Kxm := Lib.hid (show Blk (w1.alloc (.cells #[.int .i64 lm, .slice am Mm km] 45)) gxm 45 #[.int .i64 lm, .slice am Mm km] from Blk.new' w1 _ _ _ hgxm rfl)
  have Nbxm := Lib.hid (show G < gxm from by rw [← hgxm]; exact Kb.out.lt)
  replace Kb := Lib.hid (Kb.out.alloc (.cells #[.int .i64 lm, .slice am Mm km] 45))
  have Npxm := Lib.hid (show G + 1 < gxm from by rw [← hgxm]; exact Kp.out.lt)
  replace Kp := Lib.hid (Kp.out.alloc (.cells #[.int .i64 lm, .slice am Mm km] 45))
  replace Rm := Lib.hid (Rm.out.mono ((Below.refl _ w1).alloc (Nat.le_refl _) (.cells #[.int .i64 lm, .slice am Mm km] 45)))
  have Lxm := Lib.hid (show w.heap.size ≤ gxm from by rw [← hgxm]; exact B.out.size)
  replace B := Lib.hid (B.out.alloc B.out.size (.cells #[.int .i64 lm, .slice am Mm km] 45))
  go_upto_region 4 with (fail)
  try rw [hgxm]
  generalize hw : w1.alloc (.cells #[.int .i64 lm, .slice am Mm km] 45) = w2 at Kb Kp Kxm Rm B ⊢
  clear bbc0 bbc1 bpc0 bpc1
  clear hw hgxm
  obtain ⟨bbc0, bbc1⟩ := twob Kb.out
  obtain ⟨bpc0, bpc1⟩ := twob Kp.out
  obtain ⟨bxmc0, bxmc1⟩ := twob Kxm.out
  go_wp2_with fail
  refine (Pd.out _ (HP.out.mono B.out)).mono ?_
  rintro e w3 ⟨⟨ad, kd, rfl, hr⟩, hb⟩
  have Rd := Lib.hid hr
  replace Kb := Lib.hid (Kb.out.below hb Kb.out.lt)
  replace Kp := Lib.hid (Kp.out.below hb Kp.out.lt)
  replace Kxm := Lib.hid (Kxm.out.below hb Kxm.out.lt)
  replace Rm := Lib.hid (Rm.out.mono hb)
  replace B := Lib.hid (B.out.trans (hb.mono B.out.size))
  clear bbc0 bbc1 bpc0 bpc1 bxmc0 bxmc1
  clear hb hr
  obtain ⟨bbc0, bbc1⟩ := twob Kb.out
  obtain ⟨bpc0, bpc1⟩ := twob Kp.out
  obtain ⟨bxmc0, bxmc1⟩ := twob Kxm.out
  obtain ⟨gxd, hgxd⟩ : ∃ G, w3.heap.size = G := ⟨_, rfl⟩
  have Kxd := Lib.hid (show Blk (w3.alloc (.cells #[.int .i64 ld, .slice ad Md kd] 45)) gxd 45 #[.int .i64 ld, .slice ad Md kd] from Blk.new' w3 _ _ _ hgxd rfl)
  have Nbxd := Lib.hid (show G < gxd from by rw [← hgxd]; exact Kb.out.lt)
  replace Kb := Lib.hid (Kb.out.alloc (.cells #[.int .i64 ld, .slice ad Md kd] 45))
  have Npxd := Lib.hid (show G + 1 < gxd from by rw [← hgxd]; exact Kp.out.lt)
  replace Kp := Lib.hid (Kp.out.alloc (.cells #[.int .i64 ld, .slice ad Md kd] 45))
  have Nxmxd := Lib.hid (show gxm < gxd from by rw [← hgxd]; exact Kxm.out.lt)
  replace Kxm := Lib.hid (Kxm.out.alloc (.cells #[.int .i64 ld, .slice ad Md kd] 45))
  replace Rm := Lib.hid (Rm.out.mono ((Below.refl _ w3).alloc (Nat.le_refl _) (.cells #[.int .i64 ld, .slice ad Md kd] 45)))
  replace Rd := Lib.hid (Rd.out.mono ((Below.refl _ w3).alloc (Nat.le_refl _) (.cells #[.int .i64 ld, .slice ad Md kd] 45)))
  have Lxd := Lib.hid (show w.heap.size ≤ gxd from by rw [← hgxd]; exact B.out.size)
  replace B := Lib.hid (B.out.alloc B.out.size (.cells #[.int .i64 ld, .slice ad Md kd] 45))
  go_upto_region 5 with (fail)
  try rw [hgxd]
  generalize hw : w3.alloc (.cells #[.int .i64 ld, .slice ad Md kd] 45) = w4 at Kb Kp Kxm Kxd Rm Rd B ⊢
  clear bbc0 bbc1 bpc0 bpc1 bxmc0 bxmc1
  clear hw hgxd
  obtain ⟨bbc0, bbc1⟩ := twob Kb.out
  obtain ⟨bpc0, bpc1⟩ := twob Kp.out
  obtain ⟨bxmc0, bxmc1⟩ := twob Kxm.out
  obtain ⟨bxdc0, bxdc1⟩ := twob Kxd.out
  go_wp2_with fail
  refine (Pu.out _ (HP.out.mono B.out)).mono ?_
  rintro e w5 ⟨⟨au, ku, rfl, hr⟩, hb⟩
  have Ru := Lib.hid hr
  replace Kb := Lib.hid (Kb.out.below hb Kb.out.lt)
  replace Kp := Lib.hid (Kp.out.below hb Kp.out.lt)
  replace Kxm := Lib.hid (Kxm.out.below hb Kxm.out.lt)
  replace Kxd := Lib.hid (Kxd.out.below hb Kxd.out.lt)
  replace Rm := Lib.hid (Rm.out.mono hb)
  replace Rd := Lib.hid (Rd.out.mono hb)
  replace B := Lib.hid (B.out.trans (hb.mono B.out.size))
  clear bbc0 bbc1 bpc0 bpc1 bxmc0 bxmc1 bxdc0 bxdc1
  clear hb hr
  obtain ⟨bbc0, bbc1⟩ := twob Kb.out
  obtain ⟨bpc0, bpc1⟩ := twob Kp.out
  obtain ⟨bxmc0, bxmc1⟩ := twob Kxm.out
  obtain ⟨bxdc0, bxdc1⟩ := twob Kxd.out
  obtain ⟨gxu, hgxu⟩ : ∃ G, w5.heap.size = G := ⟨_, rfl⟩
  have Kxu := Lib.hid (show Blk (w5.alloc (.cells #[.int .i64 lu, .slice au Mu ku] 45)) gxu 45 #[.int .i64 lu, .slice au Mu ku] from Blk.new' w5 _ _ _ hgxu rfl)
  have Nbxu := Lib.hid (show G < gxu from by rw [← hgxu]; exact Kb.out.lt)
  replace Kb := Lib.hid (Kb.out.alloc (.cells #[.int .i64 lu, .slice au Mu ku] 45))
  have Npxu := Lib.hid (show G + 1 < gxu from by rw [← hgxu]; exact Kp.out.lt)
  replace Kp := Lib.hid (Kp.out.alloc (.cells #[.int .i64 lu, .slice au Mu ku] 45))
  have Nxmxu := Lib.hid (show gxm < gxu from by rw [← hgxu]; exact Kxm.out.lt)
  replace Kxm := Lib.hid (Kxm.out.alloc (.cells #[.int .i64 lu, .slice au Mu ku] 45))
  have Nxdxu := Lib.hid (show gxd < gxu from by rw [← hgxu]; exact Kxd.out.lt)
  replace Kxd := Lib.hid (Kxd.out.alloc (.cells #[.int .i64 lu, .slice au Mu ku] 45))
  replace Rm := Lib.hid (Rm.out.mono ((Below.refl _ w5).alloc (Nat.le_refl _) (.cells #[.int .i64 lu, .slice au Mu ku] 45)))
  replace Rd := Lib.hid (Rd.out.mono ((Below.refl _ w5).alloc (Nat.le_refl _) (.cells #[.int .i64 lu, .slice au Mu ku] 45)))
  replace Ru := Lib.hid (Ru.out.mono ((Below.refl _ w5).alloc (Nat.le_refl _) (.cells #[.int .i64 lu, .slice au Mu ku] 45)))
  have Lxu := Lib.hid (show w.heap.size ≤ gxu from by rw [← hgxu]; exact B.out.size)
  replace B := Lib.hid (B.out.alloc B.out.size (.cells #[.int .i64 lu, .slice au Mu ku] 45))
  go_upto_region 6 with (fail)
  try rw [hgxu]
  generalize hw : w5.alloc (.cells #[.int .i64 lu, .slice au Mu ku] 45) = w6 at Kb Kp Kxm Kxd Kxu Rm Rd Ru B ⊢
  clear bbc0 bbc1 bpc0 bpc1 bxmc0 bxmc1 bxdc0 bxdc1
  clear hw hgxu
  obtain ⟨bbc0, bbc1⟩ := twob Kb.out
  obtain ⟨bpc0, bpc1⟩ := twob Kp.out
  obtain ⟨bxmc0, bxmc1⟩ := twob Kxm.out
  obtain ⟨bxdc0, bxdc1⟩ := twob Kxd.out
  obtain ⟨bxuc0, bxuc1⟩ := twob Kxu.out
  go_wp2_with fail
  refine (Pv.out _ (HP.out.mono B.out)).mono ?_
  rintro e w7 ⟨⟨av, kv, rfl, hr⟩, hb⟩
  have Rv := Lib.hid hr
  replace Kb := Lib.hid (Kb.out.below hb Kb.out.lt)
  replace Kp := Lib.hid (Kp.out.below hb Kp.out.lt)
  replace Kxm := Lib.hid (Kxm.out.below hb Kxm.out.lt)
  replace Kxd := Lib.hid (Kxd.out.below hb Kxd.out.lt)
  replace Kxu := Lib.hid (Kxu.out.below hb Kxu.out.lt)
  replace Rm := Lib.hid (Rm.out.mono hb)
  replace Rd := Lib.hid (Rd.out.mono hb)
  replace Ru := Lib.hid (Ru.out.mono hb)
  replace B := Lib.hid (B.out.trans (hb.mono B.out.size))
  clear bbc0 bbc1 bpc0 bpc1 bxmc0 bxmc1 bxdc0 bxdc1 bxuc0 bxuc1
  clear hb hr
  obtain ⟨bbc0, bbc1⟩ := twob Kb.out
  obtain ⟨bpc0, bpc1⟩ := twob Kp.out
  obtain ⟨bxmc0, bxmc1⟩ := twob Kxm.out
  obtain ⟨bxdc0, bxdc1⟩ := twob Kxd.out
  obtain ⟨bxuc0, bxuc1⟩ := twob Kxu.out
  obtain ⟨gxv, hgxv⟩ : ∃ G, w7.heap.size = G := ⟨_, rfl⟩
  have Kxv := Lib.hid (show Blk (w7.alloc (.cells #[.int .i64 lv, .slice av Mv kv] 45)) gxv 45 #[.int .i64 lv, .slice av Mv kv] from Blk.new' w7 _ _ _ hgxv rfl)
  have Nbxv := Lib.hid (show G < gxv from by rw [← hgxv]; exact Kb.out.lt)
  replace Kb := Lib.hid (Kb.out.alloc (.cells #[.int .i64 lv, .slice av Mv kv] 45))
  have Npxv := Lib.hid (show G + 1 < gxv from by rw [← hgxv]; exact Kp.out.lt)
  replace Kp := Lib.hid (Kp.out.alloc (.cells #[.int .i64 lv, .slice av Mv kv] 45))
  have Nxmxv := Lib.hid (show gxm < gxv from by rw [← hgxv]; exact Kxm.out.lt)
  replace Kxm := Lib.hid (Kxm.out.alloc (.cells #[.int .i64 lv, .slice av Mv kv] 45))
  have Nxdxv := Lib.hid (show gxd < gxv from by rw [← hgxv]; exact Kxd.out.lt)
  replace Kxd := Lib.hid (Kxd.out.alloc (.cells #[.int .i64 lv, .slice av Mv kv] 45))
  have Nxuxv := Lib.hid (show gxu < gxv from by rw [← hgxv]; exact Kxu.out.lt)
  replace Kxu := Lib.hid (Kxu.out.alloc (.cells #[.int .i64 lv, .slice av Mv kv] 45))
  replace Rm := Lib.hid (Rm.out.mono ((Below.refl _ w7).alloc (Nat.le_refl _) (.cells #[.int .i64 lv, .slice av Mv kv] 45)))
  replace Rd := Lib.hid (Rd.out.mono ((Below.refl _ w7).alloc (Nat.le_refl _) (.cells #[.int .i64 lv, .slice av Mv kv] 45)))
  replace Ru := Lib.hid (Ru.out.mono ((Below.refl _ w7).alloc (Nat.le_refl _) (.cells #[.int .i64 lv, .slice av Mv kv] 45)))
  replace Rv := Lib.hid (Rv.out.mono ((Below.refl _ w7).alloc (Nat.le_refl _) (.cells #[.int .i64 lv, .slice av Mv kv] 45)))
  have Lxv := Lib.hid (show w.heap.size ≤ gxv from by rw [← hgxv]; exact B.out.size)
  replace B := Lib.hid (B.out.alloc B.out.size (.cells #[.int .i64 lv, .slice av Mv kv] 45))
  go_upto_region 7 with (fail)
  try rw [hgxv]
  generalize hw : w7.alloc (.cells #[.int .i64 lv, .slice av Mv kv] 45) = w8 at Kb Kp Kxm Kxd Kxu Kxv Rm Rd Ru Rv B ⊢
  clear bbc0 bbc1 bpc0 bpc1 bxmc0 bxmc1 bxdc0 bxdc1 bxuc0 bxuc1
  clear hw hgxv
  obtain ⟨bbc0, bbc1⟩ := twob Kb.out
  obtain ⟨bpc0, bpc1⟩ := twob Kp.out
  obtain ⟨bxmc0, bxmc1⟩ := twob Kxm.out
  obtain ⟨bxdc0, bxdc1⟩ := twob Kxd.out
  obtain ⟨bxuc0, bxuc1⟩ := twob Kxu.out
  obtain ⟨bxvc0, bxvc1⟩ := twob Kxv.out
  go_wp2_with fail
  refine (Pf.out _ (HP.out.mono B.out)).mono ?_
  rintro e w9 ⟨⟨af, kf, rfl, hr⟩, hb⟩
  have Rf := Lib.hid hr
  replace Kb := Lib.hid (Kb.out.below hb Kb.out.lt)
  replace Kp := Lib.hid (Kp.out.below hb Kp.out.lt)
  replace Kxm := Lib.hid (Kxm.out.below hb Kxm.out.lt)
  replace Kxd := Lib.hid (Kxd.out.below hb Kxd.out.lt)
  replace Kxu := Lib.hid (Kxu.out.below hb Kxu.out.lt)
  replace Kxv := Lib.hid (Kxv.out.below hb Kxv.out.lt)
  replace Rm := Lib.hid (Rm.out.mono hb)
  replace Rd := Lib.hid (Rd.out.mono hb)
  replace Ru := Lib.hid (Ru.out.mono hb)
  replace Rv := Lib.hid (Rv.out.mono hb)
  replace B := Lib.hid (B.out.trans (hb.mono B.out.size))
  clear bbc0 bbc1 bpc0 bpc1 bxmc0 bxmc1 bxdc0 bxdc1 bxuc0 bxuc1 bxvc0 bxvc1
  clear hb hr
  obtain ⟨bbc0, bbc1⟩ := twob Kb.out
  obtain ⟨bpc0, bpc1⟩ := twob Kp.out
  obtain ⟨bxmc0, bxmc1⟩ := twob Kxm.out
  obtain ⟨bxdc0, bxdc1⟩ := twob Kxd.out
  obtain ⟨bxuc0, bxuc1⟩ := twob Kxu.out
  obtain ⟨bxvc0, bxvc1⟩ := twob Kxv.out
  obtain ⟨gxf, hgxf⟩ : ∃ G, w9.heap.size = G := ⟨_, rfl⟩
  have Kxf := Lib.hid (show Blk (w9.alloc (.cells #[.int .i64 lf, .slice af Mf kf] 45)) gxf 45 #[.int .i64 lf, .slice af Mf kf] from Blk.new' w9 _ _ _ hgxf rfl)
  have Nbxf := Lib.hid (show G < gxf from by rw [← hgxf]; exact Kb.out.lt)
  replace Kb := Lib.hid (Kb.out.alloc (.cells #[.int .i64 lf, .slice af Mf kf] 45))
  have Npxf := Lib.hid (show G + 1 < gxf from by rw [← hgxf]; exact Kp.out.lt)
  replace Kp := Lib.hid (Kp.out.alloc (.cells #[.int .i64 lf, .slice af Mf kf] 45))
  have Nxmxf := Lib.hid (show gxm < gxf from by rw [← hgxf]; exact Kxm.out.lt)
  replace Kxm := Lib.hid (Kxm.out.alloc (.cells #[.int .i64 lf, .slice af Mf kf] 45))
  have Nxdxf := Lib.hid (show gxd < gxf from by rw [← hgxf]; exact Kxd.out.lt)
  replace Kxd := Lib.hid (Kxd.out.alloc (.cells #[.int .i64 lf, .slice af Mf kf] 45))
  have Nxuxf := Lib.hid (show gxu < gxf from by rw [← hgxf]; exact Kxu.out.lt)
  replace Kxu := Lib.hid (Kxu.out.alloc (.cells #[.int .i64 lf, .slice af Mf kf] 45))
  have Nxvxf := Lib.hid (show gxv < gxf from by rw [← hgxf]; exact Kxv.out.lt)
  replace Kxv := Lib.hid (Kxv.out.alloc (.cells #[.int .i64 lf, .slice af Mf kf] 45))
  replace Rm := Lib.hid (Rm.out.mono ((Below.refl _ w9).alloc (Nat.le_refl _) (.cells #[.int .i64 lf, .slice af Mf kf] 45)))
  replace Rd := Lib.hid (Rd.out.mono ((Below.refl _ w9).alloc (Nat.le_refl _) (.cells #[.int .i64 lf, .slice af Mf kf] 45)))
  replace Ru := Lib.hid (Ru.out.mono ((Below.refl _ w9).alloc (Nat.le_refl _) (.cells #[.int .i64 lf, .slice af Mf kf] 45)))
  replace Rv := Lib.hid (Rv.out.mono ((Below.refl _ w9).alloc (Nat.le_refl _) (.cells #[.int .i64 lf, .slice af Mf kf] 45)))
  replace Rf := Lib.hid (Rf.out.mono ((Below.refl _ w9).alloc (Nat.le_refl _) (.cells #[.int .i64 lf, .slice af Mf kf] 45)))
  have Lxf := Lib.hid (show w.heap.size ≤ gxf from by rw [← hgxf]; exact B.out.size)
  replace B := Lib.hid (B.out.alloc B.out.size (.cells #[.int .i64 lf, .slice af Mf kf] 45))
  go_upto_region 8 with (fail)
  try rw [hgxf]
  generalize hw : w9.alloc (.cells #[.int .i64 lf, .slice af Mf kf] 45) = w10 at Kb Kp Kxm Kxd Kxu Kxv Kxf Rm Rd Ru Rv Rf B ⊢
  clear bbc0 bbc1 bpc0 bpc1 bxmc0 bxmc1 bxdc0 bxdc1 bxuc0 bxuc1 bxvc0 bxvc1
  clear hw hgxf
  obtain ⟨bbc0, bbc1⟩ := twob Kb.out
  obtain ⟨bpc0, bpc1⟩ := twob Kp.out
  obtain ⟨bxmc0, bxmc1⟩ := twob Kxm.out
  obtain ⟨bxdc0, bxdc1⟩ := twob Kxd.out
  obtain ⟨bxuc0, bxuc1⟩ := twob Kxu.out
  obtain ⟨bxvc0, bxvc1⟩ := twob Kxv.out
  obtain ⟨bxfc0, bxfc1⟩ := twob Kxf.out
  go_wp2_with fail
  refine (Qm.out _ (HP.out.mono B.out)).mono ?_
  rintro e w11 ⟨⟨bm, jm, rfl, hr⟩, hb⟩
  have Rmq := Lib.hid hr
  replace Kb := Lib.hid (Kb.out.below hb Kb.out.lt)
  replace Kp := Lib.hid (Kp.out.below hb Kp.out.lt)
  replace Kxm := Lib.hid (Kxm.out.below hb Kxm.out.lt)
  replace Kxd := Lib.hid (Kxd.out.below hb Kxd.out.lt)
  replace Kxu := Lib.hid (Kxu.out.below hb Kxu.out.lt)
  replace Kxv := Lib.hid (Kxv.out.below hb Kxv.out.lt)
  replace Kxf := Lib.hid (Kxf.out.below hb Kxf.out.lt)
  replace Rm := Lib.hid (Rm.out.mono hb)
  replace Rd := Lib.hid (Rd.out.mono hb)
  replace Ru := Lib.hid (Ru.out.mono hb)
  replace Rv := Lib.hid (Rv.out.mono hb)
  replace Rf := Lib.hid (Rf.out.mono hb)
  replace B := Lib.hid (B.out.trans (hb.mono B.out.size))
  clear bbc0 bbc1 bpc0 bpc1 bxmc0 bxmc1 bxdc0 bxdc1 bxuc0 bxuc1 bxvc0 bxvc1 bxfc0 bxfc1
  clear hb hr
  obtain ⟨bbc0, bbc1⟩ := twob Kb.out
  obtain ⟨bpc0, bpc1⟩ := twob Kp.out
  obtain ⟨bxmc0, bxmc1⟩ := twob Kxm.out
  obtain ⟨bxdc0, bxdc1⟩ := twob Kxd.out
  obtain ⟨bxuc0, bxuc1⟩ := twob Kxu.out
  obtain ⟨bxvc0, bxvc1⟩ := twob Kxv.out
  obtain ⟨bxfc0, bxfc1⟩ := twob Kxf.out
  obtain ⟨gym, hgym⟩ : ∃ G, w11.heap.size = G := ⟨_, rfl⟩
  have Kym := Lib.hid (show Blk (w11.alloc (.cells #[.int .i64 lm, .slice bm Mm jm, .int .i64 em] 51)) gym 51 #[.int .i64 lm, .slice bm Mm jm, .int .i64 em] from Blk.new' w11 _ _ _ hgym rfl)
  have Nbym := Lib.hid (show G < gym from by rw [← hgym]; exact Kb.out.lt)
  replace Kb := Lib.hid (Kb.out.alloc (.cells #[.int .i64 lm, .slice bm Mm jm, .int .i64 em] 51))
  have Npym := Lib.hid (show G + 1 < gym from by rw [← hgym]; exact Kp.out.lt)
  replace Kp := Lib.hid (Kp.out.alloc (.cells #[.int .i64 lm, .slice bm Mm jm, .int .i64 em] 51))
  have Nxmym := Lib.hid (show gxm < gym from by rw [← hgym]; exact Kxm.out.lt)
  replace Kxm := Lib.hid (Kxm.out.alloc (.cells #[.int .i64 lm, .slice bm Mm jm, .int .i64 em] 51))
  have Nxdym := Lib.hid (show gxd < gym from by rw [← hgym]; exact Kxd.out.lt)
  replace Kxd := Lib.hid (Kxd.out.alloc (.cells #[.int .i64 lm, .slice bm Mm jm, .int .i64 em] 51))
  have Nxuym := Lib.hid (show gxu < gym from by rw [← hgym]; exact Kxu.out.lt)
  replace Kxu := Lib.hid (Kxu.out.alloc (.cells #[.int .i64 lm, .slice bm Mm jm, .int .i64 em] 51))
  have Nxvym := Lib.hid (show gxv < gym from by rw [← hgym]; exact Kxv.out.lt)
  replace Kxv := Lib.hid (Kxv.out.alloc (.cells #[.int .i64 lm, .slice bm Mm jm, .int .i64 em] 51))
  have Nxfym := Lib.hid (show gxf < gym from by rw [← hgym]; exact Kxf.out.lt)
  replace Kxf := Lib.hid (Kxf.out.alloc (.cells #[.int .i64 lm, .slice bm Mm jm, .int .i64 em] 51))
  replace Rm := Lib.hid (Rm.out.mono ((Below.refl _ w11).alloc (Nat.le_refl _) (.cells #[.int .i64 lm, .slice bm Mm jm, .int .i64 em] 51)))
  replace Rd := Lib.hid (Rd.out.mono ((Below.refl _ w11).alloc (Nat.le_refl _) (.cells #[.int .i64 lm, .slice bm Mm jm, .int .i64 em] 51)))
  replace Ru := Lib.hid (Ru.out.mono ((Below.refl _ w11).alloc (Nat.le_refl _) (.cells #[.int .i64 lm, .slice bm Mm jm, .int .i64 em] 51)))
  replace Rv := Lib.hid (Rv.out.mono ((Below.refl _ w11).alloc (Nat.le_refl _) (.cells #[.int .i64 lm, .slice bm Mm jm, .int .i64 em] 51)))
  replace Rf := Lib.hid (Rf.out.mono ((Below.refl _ w11).alloc (Nat.le_refl _) (.cells #[.int .i64 lm, .slice bm Mm jm, .int .i64 em] 51)))
  replace Rmq := Lib.hid (Rmq.out.mono ((Below.refl _ w11).alloc (Nat.le_refl _) (.cells #[.int .i64 lm, .slice bm Mm jm, .int .i64 em] 51)))
  have Lym := Lib.hid (show w.heap.size ≤ gym from by rw [← hgym]; exact B.out.size)
  replace B := Lib.hid (B.out.alloc B.out.size (.cells #[.int .i64 lm, .slice bm Mm jm, .int .i64 em] 51))
  go_upto_region 9 with (fail)
  try rw [hgym]
  generalize hw : w11.alloc (.cells #[.int .i64 lm, .slice bm Mm jm, .int .i64 em] 51) = w12 at Kb Kp Kxm Kxd Kxu Kxv Kxf Kym Rm Rd Ru Rv Rf Rmq B ⊢
  clear bbc0 bbc1 bpc0 bpc1 bxmc0 bxmc1 bxdc0 bxdc1 bxuc0 bxuc1 bxvc0 bxvc1 bxfc0 bxfc1
  clear hw hgym
  obtain ⟨bbc0, bbc1⟩ := twob Kb.out
  obtain ⟨bpc0, bpc1⟩ := twob Kp.out
  obtain ⟨bxmc0, bxmc1⟩ := twob Kxm.out
  obtain ⟨bxdc0, bxdc1⟩ := twob Kxd.out
  obtain ⟨bxuc0, bxuc1⟩ := twob Kxu.out
  obtain ⟨bxvc0, bxvc1⟩ := twob Kxv.out
  obtain ⟨bxfc0, bxfc1⟩ := twob Kxf.out
  obtain ⟨bymc0, bymc1, bymc2⟩ := three Kym.out
  go_wp2_with fail
  refine (Qd.out _ (HP.out.mono B.out)).mono ?_
  rintro e w13 ⟨⟨bd, jd, rfl, hr⟩, hb⟩
  have Rdq := Lib.hid hr
  replace Kb := Lib.hid (Kb.out.below hb Kb.out.lt)
  replace Kp := Lib.hid (Kp.out.below hb Kp.out.lt)
  replace Kxm := Lib.hid (Kxm.out.below hb Kxm.out.lt)
  replace Kxd := Lib.hid (Kxd.out.below hb Kxd.out.lt)
  replace Kxu := Lib.hid (Kxu.out.below hb Kxu.out.lt)
  replace Kxv := Lib.hid (Kxv.out.below hb Kxv.out.lt)
  replace Kxf := Lib.hid (Kxf.out.below hb Kxf.out.lt)
  replace Kym := Lib.hid (Kym.out.below hb Kym.out.lt)
  replace Rm := Lib.hid (Rm.out.mono hb)
  replace Rd := Lib.hid (Rd.out.mono hb)
  replace Ru := Lib.hid (Ru.out.mono hb)
  replace Rv := Lib.hid (Rv.out.mono hb)
  replace Rf := Lib.hid (Rf.out.mono hb)
  replace Rmq := Lib.hid (Rmq.out.mono hb)
  replace B := Lib.hid (B.out.trans (hb.mono B.out.size))
  clear bbc0 bbc1 bpc0 bpc1 bxmc0 bxmc1 bxdc0 bxdc1 bxuc0 bxuc1 bxvc0 bxvc1 bxfc0 bxfc1 bymc0 bymc1 bymc2
  clear hb hr
  obtain ⟨bbc0, bbc1⟩ := twob Kb.out
  obtain ⟨bpc0, bpc1⟩ := twob Kp.out
  obtain ⟨bxmc0, bxmc1⟩ := twob Kxm.out
  obtain ⟨bxdc0, bxdc1⟩ := twob Kxd.out
  obtain ⟨bxuc0, bxuc1⟩ := twob Kxu.out
  obtain ⟨bxvc0, bxvc1⟩ := twob Kxv.out
  obtain ⟨bxfc0, bxfc1⟩ := twob Kxf.out
  obtain ⟨bymc0, bymc1, bymc2⟩ := three Kym.out
  obtain ⟨gyd, hgyd⟩ : ∃ G, w13.heap.size = G := ⟨_, rfl⟩
  have Kyd := Lib.hid (show Blk (w13.alloc (.cells #[.int .i64 ld, .slice bd Md jd, .int .i64 ed] 51)) gyd 51 #[.int .i64 ld, .slice bd Md jd, .int .i64 ed] from Blk.new' w13 _ _ _ hgyd rfl)
  have Nbyd := Lib.hid (show G < gyd from by rw [← hgyd]; exact Kb.out.lt)
  replace Kb := Lib.hid (Kb.out.alloc (.cells #[.int .i64 ld, .slice bd Md jd, .int .i64 ed] 51))
  have Npyd := Lib.hid (show G + 1 < gyd from by rw [← hgyd]; exact Kp.out.lt)
  replace Kp := Lib.hid (Kp.out.alloc (.cells #[.int .i64 ld, .slice bd Md jd, .int .i64 ed] 51))
  have Nxmyd := Lib.hid (show gxm < gyd from by rw [← hgyd]; exact Kxm.out.lt)
  replace Kxm := Lib.hid (Kxm.out.alloc (.cells #[.int .i64 ld, .slice bd Md jd, .int .i64 ed] 51))
  have Nxdyd := Lib.hid (show gxd < gyd from by rw [← hgyd]; exact Kxd.out.lt)
  replace Kxd := Lib.hid (Kxd.out.alloc (.cells #[.int .i64 ld, .slice bd Md jd, .int .i64 ed] 51))
  have Nxuyd := Lib.hid (show gxu < gyd from by rw [← hgyd]; exact Kxu.out.lt)
  replace Kxu := Lib.hid (Kxu.out.alloc (.cells #[.int .i64 ld, .slice bd Md jd, .int .i64 ed] 51))
  have Nxvyd := Lib.hid (show gxv < gyd from by rw [← hgyd]; exact Kxv.out.lt)
  replace Kxv := Lib.hid (Kxv.out.alloc (.cells #[.int .i64 ld, .slice bd Md jd, .int .i64 ed] 51))
  have Nxfyd := Lib.hid (show gxf < gyd from by rw [← hgyd]; exact Kxf.out.lt)
  replace Kxf := Lib.hid (Kxf.out.alloc (.cells #[.int .i64 ld, .slice bd Md jd, .int .i64 ed] 51))
  have Nymyd := Lib.hid (show gym < gyd from by rw [← hgyd]; exact Kym.out.lt)
  replace Kym := Lib.hid (Kym.out.alloc (.cells #[.int .i64 ld, .slice bd Md jd, .int .i64 ed] 51))
  replace Rm := Lib.hid (Rm.out.mono ((Below.refl _ w13).alloc (Nat.le_refl _) (.cells #[.int .i64 ld, .slice bd Md jd, .int .i64 ed] 51)))
  replace Rd := Lib.hid (Rd.out.mono ((Below.refl _ w13).alloc (Nat.le_refl _) (.cells #[.int .i64 ld, .slice bd Md jd, .int .i64 ed] 51)))
  replace Ru := Lib.hid (Ru.out.mono ((Below.refl _ w13).alloc (Nat.le_refl _) (.cells #[.int .i64 ld, .slice bd Md jd, .int .i64 ed] 51)))
  replace Rv := Lib.hid (Rv.out.mono ((Below.refl _ w13).alloc (Nat.le_refl _) (.cells #[.int .i64 ld, .slice bd Md jd, .int .i64 ed] 51)))
  replace Rf := Lib.hid (Rf.out.mono ((Below.refl _ w13).alloc (Nat.le_refl _) (.cells #[.int .i64 ld, .slice bd Md jd, .int .i64 ed] 51)))
  replace Rmq := Lib.hid (Rmq.out.mono ((Below.refl _ w13).alloc (Nat.le_refl _) (.cells #[.int .i64 ld, .slice bd Md jd, .int .i64 ed] 51)))
  replace Rdq := Lib.hid (Rdq.out.mono ((Below.refl _ w13).alloc (Nat.le_refl _) (.cells #[.int .i64 ld, .slice bd Md jd, .int .i64 ed] 51)))
  have Lyd := Lib.hid (show w.heap.size ≤ gyd from by rw [← hgyd]; exact B.out.size)
  replace B := Lib.hid (B.out.alloc B.out.size (.cells #[.int .i64 ld, .slice bd Md jd, .int .i64 ed] 51))
  go_upto_region 10 with (fail)
  try rw [hgyd]
  generalize hw : w13.alloc (.cells #[.int .i64 ld, .slice bd Md jd, .int .i64 ed] 51) = w14 at Kb Kp Kxm Kxd Kxu Kxv Kxf Kym Kyd Rm Rd Ru Rv Rf Rmq Rdq B ⊢
  clear bbc0 bbc1 bpc0 bpc1 bxmc0 bxmc1 bxdc0 bxdc1 bxuc0 bxuc1 bxvc0 bxvc1 bxfc0 bxfc1 bymc0 bymc1 bymc2
  clear hw hgyd
  obtain ⟨bbc0, bbc1⟩ := twob Kb.out
  obtain ⟨bpc0, bpc1⟩ := twob Kp.out
  obtain ⟨bxmc0, bxmc1⟩ := twob Kxm.out
  obtain ⟨bxdc0, bxdc1⟩ := twob Kxd.out
  obtain ⟨bxuc0, bxuc1⟩ := twob Kxu.out
  obtain ⟨bxvc0, bxvc1⟩ := twob Kxv.out
  obtain ⟨bxfc0, bxfc1⟩ := twob Kxf.out
  obtain ⟨bymc0, bymc1, bymc2⟩ := three Kym.out
  obtain ⟨bydc0, bydc1, bydc2⟩ := three Kyd.out
  go_wp2_with fail
  refine (Qu.out _ (HP.out.mono B.out)).mono ?_
  rintro e w15 ⟨⟨bu, ju, rfl, hr⟩, hb⟩
  have Ruq := Lib.hid hr
  replace Kb := Lib.hid (Kb.out.below hb Kb.out.lt)
  replace Kp := Lib.hid (Kp.out.below hb Kp.out.lt)
  replace Kxm := Lib.hid (Kxm.out.below hb Kxm.out.lt)
  replace Kxd := Lib.hid (Kxd.out.below hb Kxd.out.lt)
  replace Kxu := Lib.hid (Kxu.out.below hb Kxu.out.lt)
  replace Kxv := Lib.hid (Kxv.out.below hb Kxv.out.lt)
  replace Kxf := Lib.hid (Kxf.out.below hb Kxf.out.lt)
  replace Kym := Lib.hid (Kym.out.below hb Kym.out.lt)
  replace Kyd := Lib.hid (Kyd.out.below hb Kyd.out.lt)
  replace Rm := Lib.hid (Rm.out.mono hb)
  replace Rd := Lib.hid (Rd.out.mono hb)
  replace Ru := Lib.hid (Ru.out.mono hb)
  replace Rv := Lib.hid (Rv.out.mono hb)
  replace Rf := Lib.hid (Rf.out.mono hb)
  replace Rmq := Lib.hid (Rmq.out.mono hb)
  replace Rdq := Lib.hid (Rdq.out.mono hb)
  replace B := Lib.hid (B.out.trans (hb.mono B.out.size))
  clear bbc0 bbc1 bpc0 bpc1 bxmc0 bxmc1 bxdc0 bxdc1 bxuc0 bxuc1 bxvc0 bxvc1 bxfc0 bxfc1 bymc0 bymc1 bymc2 bydc0 bydc1 bydc2
  clear hb hr
  obtain ⟨bbc0, bbc1⟩ := twob Kb.out
  obtain ⟨bpc0, bpc1⟩ := twob Kp.out
  obtain ⟨bxmc0, bxmc1⟩ := twob Kxm.out
  obtain ⟨bxdc0, bxdc1⟩ := twob Kxd.out
  obtain ⟨bxuc0, bxuc1⟩ := twob Kxu.out
  obtain ⟨bxvc0, bxvc1⟩ := twob Kxv.out
  obtain ⟨bxfc0, bxfc1⟩ := twob Kxf.out
  obtain ⟨bymc0, bymc1, bymc2⟩ := three Kym.out
  obtain ⟨bydc0, bydc1, bydc2⟩ := three Kyd.out
  obtain ⟨gyu, hgyu⟩ : ∃ G, w15.heap.size = G := ⟨_, rfl⟩
  have Kyu := Lib.hid (show Blk (w15.alloc (.cells #[.int .i64 lu, .slice bu Mu ju, .int .i64 eu] 51)) gyu 51 #[.int .i64 lu, .slice bu Mu ju, .int .i64 eu] from Blk.new' w15 _ _ _ hgyu rfl)
  have Nbyu := Lib.hid (show G < gyu from by rw [← hgyu]; exact Kb.out.lt)
  replace Kb := Lib.hid (Kb.out.alloc (.cells #[.int .i64 lu, .slice bu Mu ju, .int .i64 eu] 51))
  have Npyu := Lib.hid (show G + 1 < gyu from by rw [← hgyu]; exact Kp.out.lt)
  replace Kp := Lib.hid (Kp.out.alloc (.cells #[.int .i64 lu, .slice bu Mu ju, .int .i64 eu] 51))
  have Nxmyu := Lib.hid (show gxm < gyu from by rw [← hgyu]; exact Kxm.out.lt)
  replace Kxm := Lib.hid (Kxm.out.alloc (.cells #[.int .i64 lu, .slice bu Mu ju, .int .i64 eu] 51))
  have Nxdyu := Lib.hid (show gxd < gyu from by rw [← hgyu]; exact Kxd.out.lt)
  replace Kxd := Lib.hid (Kxd.out.alloc (.cells #[.int .i64 lu, .slice bu Mu ju, .int .i64 eu] 51))
  have Nxuyu := Lib.hid (show gxu < gyu from by rw [← hgyu]; exact Kxu.out.lt)
  replace Kxu := Lib.hid (Kxu.out.alloc (.cells #[.int .i64 lu, .slice bu Mu ju, .int .i64 eu] 51))
  have Nxvyu := Lib.hid (show gxv < gyu from by rw [← hgyu]; exact Kxv.out.lt)
  replace Kxv := Lib.hid (Kxv.out.alloc (.cells #[.int .i64 lu, .slice bu Mu ju, .int .i64 eu] 51))
  have Nxfyu := Lib.hid (show gxf < gyu from by rw [← hgyu]; exact Kxf.out.lt)
  replace Kxf := Lib.hid (Kxf.out.alloc (.cells #[.int .i64 lu, .slice bu Mu ju, .int .i64 eu] 51))
  have Nymyu := Lib.hid (show gym < gyu from by rw [← hgyu]; exact Kym.out.lt)
  replace Kym := Lib.hid (Kym.out.alloc (.cells #[.int .i64 lu, .slice bu Mu ju, .int .i64 eu] 51))
  have Nydyu := Lib.hid (show gyd < gyu from by rw [← hgyu]; exact Kyd.out.lt)
  replace Kyd := Lib.hid (Kyd.out.alloc (.cells #[.int .i64 lu, .slice bu Mu ju, .int .i64 eu] 51))
  replace Rm := Lib.hid (Rm.out.mono ((Below.refl _ w15).alloc (Nat.le_refl _) (.cells #[.int .i64 lu, .slice bu Mu ju, .int .i64 eu] 51)))
  replace Rd := Lib.hid (Rd.out.mono ((Below.refl _ w15).alloc (Nat.le_refl _) (.cells #[.int .i64 lu, .slice bu Mu ju, .int .i64 eu] 51)))
  replace Ru := Lib.hid (Ru.out.mono ((Below.refl _ w15).alloc (Nat.le_refl _) (.cells #[.int .i64 lu, .slice bu Mu ju, .int .i64 eu] 51)))
  replace Rv := Lib.hid (Rv.out.mono ((Below.refl _ w15).alloc (Nat.le_refl _) (.cells #[.int .i64 lu, .slice bu Mu ju, .int .i64 eu] 51)))
  replace Rf := Lib.hid (Rf.out.mono ((Below.refl _ w15).alloc (Nat.le_refl _) (.cells #[.int .i64 lu, .slice bu Mu ju, .int .i64 eu] 51)))
  replace Rmq := Lib.hid (Rmq.out.mono ((Below.refl _ w15).alloc (Nat.le_refl _) (.cells #[.int .i64 lu, .slice bu Mu ju, .int .i64 eu] 51)))
  replace Rdq := Lib.hid (Rdq.out.mono ((Below.refl _ w15).alloc (Nat.le_refl _) (.cells #[.int .i64 lu, .slice bu Mu ju, .int .i64 eu] 51)))
  replace Ruq := Lib.hid (Ruq.out.mono ((Below.refl _ w15).alloc (Nat.le_refl _) (.cells #[.int .i64 lu, .slice bu Mu ju, .int .i64 eu] 51)))
  have Lyu := Lib.hid (show w.heap.size ≤ gyu from by rw [← hgyu]; exact B.out.size)
  replace B := Lib.hid (B.out.alloc B.out.size (.cells #[.int .i64 lu, .slice bu Mu ju, .int .i64 eu] 51))
  go_upto_region 11 with (fail)
  try rw [hgyu]
  generalize hw : w15.alloc (.cells #[.int .i64 lu, .slice bu Mu ju, .int .i64 eu] 51) = w16 at Kb Kp Kxm Kxd Kxu Kxv Kxf Kym Kyd Kyu Rm Rd Ru Rv Rf Rmq Rdq Ruq B ⊢
  clear bbc0 bbc1 bpc0 bpc1 bxmc0 bxmc1 bxdc0 bxdc1 bxuc0 bxuc1 bxvc0 bxvc1 bxfc0 bxfc1 bymc0 bymc1 bymc2 bydc0 bydc1 bydc2
  clear hw hgyu
  obtain ⟨bbc0, bbc1⟩ := twob Kb.out
  obtain ⟨bpc0, bpc1⟩ := twob Kp.out
  obtain ⟨bxmc0, bxmc1⟩ := twob Kxm.out
  obtain ⟨bxdc0, bxdc1⟩ := twob Kxd.out
  obtain ⟨bxuc0, bxuc1⟩ := twob Kxu.out
  obtain ⟨bxvc0, bxvc1⟩ := twob Kxv.out
  obtain ⟨bxfc0, bxfc1⟩ := twob Kxf.out
  obtain ⟨bymc0, bymc1, bymc2⟩ := three Kym.out
  obtain ⟨bydc0, bydc1, bydc2⟩ := three Kyd.out
  obtain ⟨byuc0, byuc1, byuc2⟩ := three Kyu.out
  go_wp2_with fail
  refine (Qv.out _ (HP.out.mono B.out)).mono ?_
  rintro e w17 ⟨⟨bv, jv, rfl, hr⟩, hb⟩
  have Rvq := Lib.hid hr
  replace Kb := Lib.hid (Kb.out.below hb Kb.out.lt)
  replace Kp := Lib.hid (Kp.out.below hb Kp.out.lt)
  replace Kxm := Lib.hid (Kxm.out.below hb Kxm.out.lt)
  replace Kxd := Lib.hid (Kxd.out.below hb Kxd.out.lt)
  replace Kxu := Lib.hid (Kxu.out.below hb Kxu.out.lt)
  replace Kxv := Lib.hid (Kxv.out.below hb Kxv.out.lt)
  replace Kxf := Lib.hid (Kxf.out.below hb Kxf.out.lt)
  replace Kym := Lib.hid (Kym.out.below hb Kym.out.lt)
  replace Kyd := Lib.hid (Kyd.out.below hb Kyd.out.lt)
  replace Kyu := Lib.hid (Kyu.out.below hb Kyu.out.lt)
  replace Rm := Lib.hid (Rm.out.mono hb)
  replace Rd := Lib.hid (Rd.out.mono hb)
  replace Ru := Lib.hid (Ru.out.mono hb)
  replace Rv := Lib.hid (Rv.out.mono hb)
  replace Rf := Lib.hid (Rf.out.mono hb)
  replace Rmq := Lib.hid (Rmq.out.mono hb)
  replace Rdq := Lib.hid (Rdq.out.mono hb)
  replace Ruq := Lib.hid (Ruq.out.mono hb)
  replace B := Lib.hid (B.out.trans (hb.mono B.out.size))
  clear bbc0 bbc1 bpc0 bpc1 bxmc0 bxmc1 bxdc0 bxdc1 bxuc0 bxuc1 bxvc0 bxvc1 bxfc0 bxfc1 bymc0 bymc1 bymc2 bydc0 bydc1 bydc2 byuc0 byuc1 byuc2
  clear hb hr
  obtain ⟨bbc0, bbc1⟩ := twob Kb.out
  obtain ⟨bpc0, bpc1⟩ := twob Kp.out
  obtain ⟨bxmc0, bxmc1⟩ := twob Kxm.out
  obtain ⟨bxdc0, bxdc1⟩ := twob Kxd.out
  obtain ⟨bxuc0, bxuc1⟩ := twob Kxu.out
  obtain ⟨bxvc0, bxvc1⟩ := twob Kxv.out
  obtain ⟨bxfc0, bxfc1⟩ := twob Kxf.out
  obtain ⟨bymc0, bymc1, bymc2⟩ := three Kym.out
  obtain ⟨bydc0, bydc1, bydc2⟩ := three Kyd.out
  obtain ⟨byuc0, byuc1, byuc2⟩ := three Kyu.out
  obtain ⟨gyv, hgyv⟩ : ∃ G, w17.heap.size = G := ⟨_, rfl⟩
  have Kyv := Lib.hid (show Blk (w17.alloc (.cells #[.int .i64 lv, .slice bv Mv jv, .int .i64 ev] 51)) gyv 51 #[.int .i64 lv, .slice bv Mv jv, .int .i64 ev] from Blk.new' w17 _ _ _ hgyv rfl)
  have Nbyv := Lib.hid (show G < gyv from by rw [← hgyv]; exact Kb.out.lt)
  replace Kb := Lib.hid (Kb.out.alloc (.cells #[.int .i64 lv, .slice bv Mv jv, .int .i64 ev] 51))
  have Npyv := Lib.hid (show G + 1 < gyv from by rw [← hgyv]; exact Kp.out.lt)
  replace Kp := Lib.hid (Kp.out.alloc (.cells #[.int .i64 lv, .slice bv Mv jv, .int .i64 ev] 51))
  have Nxmyv := Lib.hid (show gxm < gyv from by rw [← hgyv]; exact Kxm.out.lt)
  replace Kxm := Lib.hid (Kxm.out.alloc (.cells #[.int .i64 lv, .slice bv Mv jv, .int .i64 ev] 51))
  have Nxdyv := Lib.hid (show gxd < gyv from by rw [← hgyv]; exact Kxd.out.lt)
  replace Kxd := Lib.hid (Kxd.out.alloc (.cells #[.int .i64 lv, .slice bv Mv jv, .int .i64 ev] 51))
  have Nxuyv := Lib.hid (show gxu < gyv from by rw [← hgyv]; exact Kxu.out.lt)
  replace Kxu := Lib.hid (Kxu.out.alloc (.cells #[.int .i64 lv, .slice bv Mv jv, .int .i64 ev] 51))
  have Nxvyv := Lib.hid (show gxv < gyv from by rw [← hgyv]; exact Kxv.out.lt)
  replace Kxv := Lib.hid (Kxv.out.alloc (.cells #[.int .i64 lv, .slice bv Mv jv, .int .i64 ev] 51))
  have Nxfyv := Lib.hid (show gxf < gyv from by rw [← hgyv]; exact Kxf.out.lt)
  replace Kxf := Lib.hid (Kxf.out.alloc (.cells #[.int .i64 lv, .slice bv Mv jv, .int .i64 ev] 51))
  have Nymyv := Lib.hid (show gym < gyv from by rw [← hgyv]; exact Kym.out.lt)
  replace Kym := Lib.hid (Kym.out.alloc (.cells #[.int .i64 lv, .slice bv Mv jv, .int .i64 ev] 51))
  have Nydyv := Lib.hid (show gyd < gyv from by rw [← hgyv]; exact Kyd.out.lt)
  replace Kyd := Lib.hid (Kyd.out.alloc (.cells #[.int .i64 lv, .slice bv Mv jv, .int .i64 ev] 51))
  have Nyuyv := Lib.hid (show gyu < gyv from by rw [← hgyv]; exact Kyu.out.lt)
  replace Kyu := Lib.hid (Kyu.out.alloc (.cells #[.int .i64 lv, .slice bv Mv jv, .int .i64 ev] 51))
  replace Rm := Lib.hid (Rm.out.mono ((Below.refl _ w17).alloc (Nat.le_refl _) (.cells #[.int .i64 lv, .slice bv Mv jv, .int .i64 ev] 51)))
  replace Rd := Lib.hid (Rd.out.mono ((Below.refl _ w17).alloc (Nat.le_refl _) (.cells #[.int .i64 lv, .slice bv Mv jv, .int .i64 ev] 51)))
  replace Ru := Lib.hid (Ru.out.mono ((Below.refl _ w17).alloc (Nat.le_refl _) (.cells #[.int .i64 lv, .slice bv Mv jv, .int .i64 ev] 51)))
  replace Rv := Lib.hid (Rv.out.mono ((Below.refl _ w17).alloc (Nat.le_refl _) (.cells #[.int .i64 lv, .slice bv Mv jv, .int .i64 ev] 51)))
  replace Rf := Lib.hid (Rf.out.mono ((Below.refl _ w17).alloc (Nat.le_refl _) (.cells #[.int .i64 lv, .slice bv Mv jv, .int .i64 ev] 51)))
  replace Rmq := Lib.hid (Rmq.out.mono ((Below.refl _ w17).alloc (Nat.le_refl _) (.cells #[.int .i64 lv, .slice bv Mv jv, .int .i64 ev] 51)))
  replace Rdq := Lib.hid (Rdq.out.mono ((Below.refl _ w17).alloc (Nat.le_refl _) (.cells #[.int .i64 lv, .slice bv Mv jv, .int .i64 ev] 51)))
  replace Ruq := Lib.hid (Ruq.out.mono ((Below.refl _ w17).alloc (Nat.le_refl _) (.cells #[.int .i64 lv, .slice bv Mv jv, .int .i64 ev] 51)))
  replace Rvq := Lib.hid (Rvq.out.mono ((Below.refl _ w17).alloc (Nat.le_refl _) (.cells #[.int .i64 lv, .slice bv Mv jv, .int .i64 ev] 51)))
  have Lyv := Lib.hid (show w.heap.size ≤ gyv from by rw [← hgyv]; exact B.out.size)
  replace B := Lib.hid (B.out.alloc B.out.size (.cells #[.int .i64 lv, .slice bv Mv jv, .int .i64 ev] 51))
  go_upto_region 12 with (fail)
  try rw [hgyv]
  generalize hw : w17.alloc (.cells #[.int .i64 lv, .slice bv Mv jv, .int .i64 ev] 51) = w18 at Kb Kp Kxm Kxd Kxu Kxv Kxf Kym Kyd Kyu Kyv Rm Rd Ru Rv Rf Rmq Rdq Ruq Rvq B ⊢
  clear bbc0 bbc1 bpc0 bpc1 bxmc0 bxmc1 bxdc0 bxdc1 bxuc0 bxuc1 bxvc0 bxvc1 bxfc0 bxfc1 bymc0 bymc1 bymc2 bydc0 bydc1 bydc2 byuc0 byuc1 byuc2
  clear hw hgyv
  obtain ⟨bbc0, bbc1⟩ := twob Kb.out
  obtain ⟨bpc0, bpc1⟩ := twob Kp.out
  obtain ⟨bxmc0, bxmc1⟩ := twob Kxm.out
  obtain ⟨bxdc0, bxdc1⟩ := twob Kxd.out
  obtain ⟨bxuc0, bxuc1⟩ := twob Kxu.out
  obtain ⟨bxvc0, bxvc1⟩ := twob Kxv.out
  obtain ⟨bxfc0, bxfc1⟩ := twob Kxf.out
  obtain ⟨bymc0, bymc1, bymc2⟩ := three Kym.out
  obtain ⟨bydc0, bydc1, bydc2⟩ := three Kyd.out
  obtain ⟨byuc0, byuc1, byuc2⟩ := three Kyu.out
  obtain ⟨byvc0, byvc1, byvc2⟩ := three Kyv.out
  go_wp2_with fail
  refine (Qf.out _ (HP.out.mono B.out)).mono ?_
  rintro e w19 ⟨⟨bf, jf, rfl, hr⟩, hb⟩
  have Rfq := Lib.hid hr
  replace Kb := Lib.hid (Kb.out.below hb Kb.out.lt)
  replace Kp := Lib.hid (Kp.out.below hb Kp.out.lt)
  replace Kxm := Lib.hid (Kxm.out.below hb Kxm.out.lt)
  replace Kxd := Lib.hid (Kxd.out.below hb Kxd.out.lt)
  replace Kxu := Lib.hid (Kxu.out.below hb Kxu.out.lt)
  replace Kxv := Lib.hid (Kxv.out.below hb Kxv.out.lt)
  replace Kxf := Lib.hid (Kxf.out.below hb Kxf.out.lt)
  replace Kym := Lib.hid (Kym.out.below hb Kym.out.lt)
  replace Kyd := Lib.hid (Kyd.out.below hb Kyd.out.lt)
  replace Kyu := Lib.hid (Kyu.out.below hb Kyu.out.lt)
  replace Kyv := Lib.hid (Kyv.out.below hb Kyv.out.lt)
  replace Rm := Lib.hid (Rm.out.mono hb)
  replace Rd := Lib.hid (Rd.out.mono hb)
  replace Ru := Lib.hid (Ru.out.mono hb)
  replace Rv := Lib.hid (Rv.out.mono hb)
  replace Rf := Lib.hid (Rf.out.mono hb)
  replace Rmq := Lib.hid (Rmq.out.mono hb)
  replace Rdq := Lib.hid (Rdq.out.mono hb)
  replace Ruq := Lib.hid (Ruq.out.mono hb)
  replace Rvq := Lib.hid (Rvq.out.mono hb)
  replace B := Lib.hid (B.out.trans (hb.mono B.out.size))
  clear bbc0 bbc1 bpc0 bpc1 bxmc0 bxmc1 bxdc0 bxdc1 bxuc0 bxuc1 bxvc0 bxvc1 bxfc0 bxfc1 bymc0 bymc1 bymc2 bydc0 bydc1 bydc2 byuc0 byuc1 byuc2 byvc0 byvc1 byvc2
  clear hb hr
  obtain ⟨bbc0, bbc1⟩ := twob Kb.out
  obtain ⟨bpc0, bpc1⟩ := twob Kp.out
  obtain ⟨bxmc0, bxmc1⟩ := twob Kxm.out
  obtain ⟨bxdc0, bxdc1⟩ := twob Kxd.out
  obtain ⟨bxuc0, bxuc1⟩ := twob Kxu.out
  obtain ⟨bxvc0, bxvc1⟩ := twob Kxv.out
  obtain ⟨bxfc0, bxfc1⟩ := twob Kxf.out
  obtain ⟨bymc0, bymc1, bymc2⟩ := three Kym.out
  obtain ⟨bydc0, bydc1, bydc2⟩ := three Kyd.out
  obtain ⟨byuc0, byuc1, byuc2⟩ := three Kyu.out
  obtain ⟨byvc0, byvc1, byvc2⟩ := three Kyv.out
  obtain ⟨gyf, hgyf⟩ : ∃ G, w19.heap.size = G := ⟨_, rfl⟩
  have Kyf := Lib.hid (show Blk (w19.alloc (.cells #[.int .i64 lf, .slice bf Mf jf, .int .i64 ef] 51)) gyf 51 #[.int .i64 lf, .slice bf Mf jf, .int .i64 ef] from Blk.new' w19 _ _ _ hgyf rfl)
  have Nbyf := Lib.hid (show G < gyf from by rw [← hgyf]; exact Kb.out.lt)
  replace Kb := Lib.hid (Kb.out.alloc (.cells #[.int .i64 lf, .slice bf Mf jf, .int .i64 ef] 51))
  have Npyf := Lib.hid (show G + 1 < gyf from by rw [← hgyf]; exact Kp.out.lt)
  replace Kp := Lib.hid (Kp.out.alloc (.cells #[.int .i64 lf, .slice bf Mf jf, .int .i64 ef] 51))
  have Nxmyf := Lib.hid (show gxm < gyf from by rw [← hgyf]; exact Kxm.out.lt)
  replace Kxm := Lib.hid (Kxm.out.alloc (.cells #[.int .i64 lf, .slice bf Mf jf, .int .i64 ef] 51))
  have Nxdyf := Lib.hid (show gxd < gyf from by rw [← hgyf]; exact Kxd.out.lt)
  replace Kxd := Lib.hid (Kxd.out.alloc (.cells #[.int .i64 lf, .slice bf Mf jf, .int .i64 ef] 51))
  have Nxuyf := Lib.hid (show gxu < gyf from by rw [← hgyf]; exact Kxu.out.lt)
  replace Kxu := Lib.hid (Kxu.out.alloc (.cells #[.int .i64 lf, .slice bf Mf jf, .int .i64 ef] 51))
  have Nxvyf := Lib.hid (show gxv < gyf from by rw [← hgyf]; exact Kxv.out.lt)
  replace Kxv := Lib.hid (Kxv.out.alloc (.cells #[.int .i64 lf, .slice bf Mf jf, .int .i64 ef] 51))
  have Nxfyf := Lib.hid (show gxf < gyf from by rw [← hgyf]; exact Kxf.out.lt)
  replace Kxf := Lib.hid (Kxf.out.alloc (.cells #[.int .i64 lf, .slice bf Mf jf, .int .i64 ef] 51))
  have Nymyf := Lib.hid (show gym < gyf from by rw [← hgyf]; exact Kym.out.lt)
  replace Kym := Lib.hid (Kym.out.alloc (.cells #[.int .i64 lf, .slice bf Mf jf, .int .i64 ef] 51))
  have Nydyf := Lib.hid (show gyd < gyf from by rw [← hgyf]; exact Kyd.out.lt)
  replace Kyd := Lib.hid (Kyd.out.alloc (.cells #[.int .i64 lf, .slice bf Mf jf, .int .i64 ef] 51))
  have Nyuyf := Lib.hid (show gyu < gyf from by rw [← hgyf]; exact Kyu.out.lt)
  replace Kyu := Lib.hid (Kyu.out.alloc (.cells #[.int .i64 lf, .slice bf Mf jf, .int .i64 ef] 51))
  have Nyvyf := Lib.hid (show gyv < gyf from by rw [← hgyf]; exact Kyv.out.lt)
  replace Kyv := Lib.hid (Kyv.out.alloc (.cells #[.int .i64 lf, .slice bf Mf jf, .int .i64 ef] 51))
  replace Rm := Lib.hid (Rm.out.mono ((Below.refl _ w19).alloc (Nat.le_refl _) (.cells #[.int .i64 lf, .slice bf Mf jf, .int .i64 ef] 51)))
  replace Rd := Lib.hid (Rd.out.mono ((Below.refl _ w19).alloc (Nat.le_refl _) (.cells #[.int .i64 lf, .slice bf Mf jf, .int .i64 ef] 51)))
  replace Ru := Lib.hid (Ru.out.mono ((Below.refl _ w19).alloc (Nat.le_refl _) (.cells #[.int .i64 lf, .slice bf Mf jf, .int .i64 ef] 51)))
  replace Rv := Lib.hid (Rv.out.mono ((Below.refl _ w19).alloc (Nat.le_refl _) (.cells #[.int .i64 lf, .slice bf Mf jf, .int .i64 ef] 51)))
  replace Rf := Lib.hid (Rf.out.mono ((Below.refl _ w19).alloc (Nat.le_refl _) (.cells #[.int .i64 lf, .slice bf Mf jf, .int .i64 ef] 51)))
  replace Rmq := Lib.hid (Rmq.out.mono ((Below.refl _ w19).alloc (Nat.le_refl _) (.cells #[.int .i64 lf, .slice bf Mf jf, .int .i64 ef] 51)))
  replace Rdq := Lib.hid (Rdq.out.mono ((Below.refl _ w19).alloc (Nat.le_refl _) (.cells #[.int .i64 lf, .slice bf Mf jf, .int .i64 ef] 51)))
  replace Ruq := Lib.hid (Ruq.out.mono ((Below.refl _ w19).alloc (Nat.le_refl _) (.cells #[.int .i64 lf, .slice bf Mf jf, .int .i64 ef] 51)))
  replace Rvq := Lib.hid (Rvq.out.mono ((Below.refl _ w19).alloc (Nat.le_refl _) (.cells #[.int .i64 lf, .slice bf Mf jf, .int .i64 ef] 51)))
  replace Rfq := Lib.hid (Rfq.out.mono ((Below.refl _ w19).alloc (Nat.le_refl _) (.cells #[.int .i64 lf, .slice bf Mf jf, .int .i64 ef] 51)))
  have Lyf := Lib.hid (show w.heap.size ≤ gyf from by rw [← hgyf]; exact B.out.size)
  replace B := Lib.hid (B.out.alloc B.out.size (.cells #[.int .i64 lf, .slice bf Mf jf, .int .i64 ef] 51))
  go_upto_region 13 with (fail)
  try rw [hgyf]
  generalize hw : w19.alloc (.cells #[.int .i64 lf, .slice bf Mf jf, .int .i64 ef] 51) = w20 at Kb Kp Kxm Kxd Kxu Kxv Kxf Kym Kyd Kyu Kyv Kyf Rm Rd Ru Rv Rf Rmq Rdq Ruq Rvq Rfq B ⊢
  clear bbc0 bbc1 bpc0 bpc1 bxmc0 bxmc1 bxdc0 bxdc1 bxuc0 bxuc1 bxvc0 bxvc1 bxfc0 bxfc1 bymc0 bymc1 bymc2 bydc0 bydc1 bydc2 byuc0 byuc1 byuc2 byvc0 byvc1 byvc2
  clear hw hgyf
  obtain ⟨bbc0, bbc1⟩ := twob Kb.out
  obtain ⟨bpc0, bpc1⟩ := twob Kp.out
  obtain ⟨bxmc0, bxmc1⟩ := twob Kxm.out
  obtain ⟨bxdc0, bxdc1⟩ := twob Kxd.out
  obtain ⟨bxuc0, bxuc1⟩ := twob Kxu.out
  obtain ⟨bxvc0, bxvc1⟩ := twob Kxv.out
  obtain ⟨bxfc0, bxfc1⟩ := twob Kxf.out
  obtain ⟨bymc0, bymc1, bymc2⟩ := three Kym.out
  obtain ⟨bydc0, bydc1, bydc2⟩ := three Kyd.out
  obtain ⟨byuc0, byuc1, byuc2⟩ := three Kyu.out
  obtain ⟨byvc0, byvc1, byvc2⟩ := three Kyv.out
  obtain ⟨byfc0, byfc1, byfc2⟩ := three Kyf.out
  clear bbc0 bbc1 bpc0 bpc1 bxmc0 bxmc1 bxdc0 bxdc1 bxuc0 bxuc1 bxvc0 bxvc1 bxfc0 bxfc1 bymc0 bymc1 bymc2 bydc0 bydc1 bydc2 byuc0 byuc1 byuc2 byvc0 byvc1 byvc2 byfc0 byfc1 byfc2
  have HP2 := Lib.hid (HP.out.mono B.out)
  have ZPV := Lib.hid (fun (d : Nat) (os : Array Obj) => PV.out (grow (redrawn w20 d) os) (HP2.out.mono (below_regrown _ _ _)))
  have ZQV := Lib.hid (fun (d : Nat) (os : Array Obj) => QV.out (grow (redrawn w20 d) os) (HP2.out.mono (below_regrown _ _ _)))
  have ZSm := Lib.hid (fun (d : Nat) (os : Array Obj) => Sm.out am bm km jm (grow (redrawn w20 d) os) (Rm.out.mono (below_regrown _ _ _)) (Rmq.out.mono (below_regrown _ _ _)))
  have ZSd := Lib.hid (fun (d : Nat) (os : Array Obj) => Sd.out ad bd kd jd (grow (redrawn w20 d) os) (Rd.out.mono (below_regrown _ _ _)) (Rdq.out.mono (below_regrown _ _ _)))
  have ZSu := Lib.hid (fun (d : Nat) (os : Array Obj) => Su.out au bu ku ju (grow (redrawn w20 d) os) (Ru.out.mono (below_regrown _ _ _)) (Ruq.out.mono (below_regrown _ _ _)))
  obtain ⟨bbc0, bbc1⟩ := twob Kb.out
  obtain ⟨bpc0, bpc1⟩ := twob Kp.out
  obtain ⟨bxmc0, bxmc1⟩ := twob Kxm.out
  obtain ⟨bxdc0, bxdc1⟩ := twob Kxd.out
  obtain ⟨bxuc0, bxuc1⟩ := twob Kxu.out
  obtain ⟨bxvc0, bxvc1⟩ := twob Kxv.out
  obtain ⟨bxfc0, bxfc1⟩ := twob Kxf.out
  obtain ⟨bymc0, bymc1, bymc2⟩ := three Kym.out
  obtain ⟨bydc0, bydc1, bydc2⟩ := three Kyd.out
  obtain ⟨byuc0, byuc1, byuc2⟩ := three Kyu.out
  obtain ⟨byvc0, byvc1, byvc2⟩ := three Kyv.out
  obtain ⟨byfc0, byfc1, byfc2⟩ := three Kyf.out
  have gc := grow_cell3
  have zzb := Kb.out.lt
  have zzp := Kp.out.lt
  have zzxm := Kxm.out.lt
  have zzxd := Kxd.out.lt
  have zzxu := Kxu.out.lt
  have zzxv := Kxv.out.lt
  have zzxf := Kxf.out.lt
  have zzym := Kym.out.lt
  have zzyd := Kyd.out.lt
  have zzyu := Kyu.out.lt
  have zzyv := Kyv.out.lt
  have zzyf := Kyf.out.lt
  go_wp2_with fail
  refine wp_region_quiet_below (by kernel_rfl) (by kernel_rfl) ?_
  repeat (go_big_quiet_step (first | (with_reducible exact Calls.regrown_of (ZPV.out _ _)) | (with_reducible exact Calls.regrown_of (ZQV.out _ _)) | (with_reducible exact Calls.regrown_of (ZSm.out _ _)) | (with_reducible exact Calls.regrown_of (ZSd.out _ _)) | (with_reducible exact Calls.regrown_of (ZSu.out _ _))))
  refine wpQuiet_nil ?_
  intro w21 hw'
  obtain ⟨⟨dq, osq⟩, hw''⟩ := hw'
  have hb := below_of_grow3 hw''
  clear hw'' gc zzb zzp zzxm zzxd zzxu zzxv zzxf zzym zzyd zzyu zzyv zzyf
  replace Kb := Lib.hid (Kb.out.below hb Kb.out.lt)
  replace Kp := Lib.hid (Kp.out.below hb Kp.out.lt)
  replace Kxm := Lib.hid (Kxm.out.below hb Kxm.out.lt)
  replace Kxd := Lib.hid (Kxd.out.below hb Kxd.out.lt)
  replace Kxu := Lib.hid (Kxu.out.below hb Kxu.out.lt)
  replace Kxv := Lib.hid (Kxv.out.below hb Kxv.out.lt)
  replace Kxf := Lib.hid (Kxf.out.below hb Kxf.out.lt)
  replace Kym := Lib.hid (Kym.out.below hb Kym.out.lt)
  replace Kyd := Lib.hid (Kyd.out.below hb Kyd.out.lt)
  replace Kyu := Lib.hid (Kyu.out.below hb Kyu.out.lt)
  replace Kyv := Lib.hid (Kyv.out.below hb Kyv.out.lt)
  replace Kyf := Lib.hid (Kyf.out.below hb Kyf.out.lt)
  replace Rm := Lib.hid (Rm.out.mono hb)
  replace Rd := Lib.hid (Rd.out.mono hb)
  replace Ru := Lib.hid (Ru.out.mono hb)
  replace Rv := Lib.hid (Rv.out.mono hb)
  replace Rf := Lib.hid (Rf.out.mono hb)
  replace Rmq := Lib.hid (Rmq.out.mono hb)
  replace Rdq := Lib.hid (Rdq.out.mono hb)
  replace Ruq := Lib.hid (Ruq.out.mono hb)
  replace Rvq := Lib.hid (Rvq.out.mono hb)
  replace Rfq := Lib.hid (Rfq.out.mono hb)
  replace B := Lib.hid (B.out.trans (hb.mono B.out.size))
  clear hb
  clear bbc0 bbc1 bpc0 bpc1 bxmc0 bxmc1 bxdc0 bxdc1 bxuc0 bxuc1 bxvc0 bxvc1 bxfc0 bxfc1 bymc0 bymc1 bymc2 bydc0 bydc1 bydc2 byuc0 byuc1 byuc2 byvc0 byvc1 byvc2 byfc0 byfc1 byfc2
  clear HP2 ZPV ZQV ZSm ZSd ZSu
  have HP2 := Lib.hid (HP.out.mono B.out)
  have QN := Lib.hid (fun (d : Nat) (os : Array Obj) => SN.out (grow (redrawn w21 d) os))
  have ZPLT := Lib.hid (fun (d : Nat) (os : Array Obj) => PLT.out (grow (redrawn w21 d) os) (HP2.out.mono (below_regrown _ _ _)))
  have ZQLT := Lib.hid (fun (d : Nat) (os : Array Obj) => QLT.out (grow (redrawn w21 d) os) (HP2.out.mono (below_regrown _ _ _)))
  have ZPBK := Lib.hid (fun (d : Nat) (os : Array Obj) => PBK.out (grow (redrawn w21 d) os) (HP2.out.mono (below_regrown _ _ _)))
  have ZQBK := Lib.hid (fun (d : Nat) (os : Array Obj) => QBK.out (grow (redrawn w21 d) os) (HP2.out.mono (below_regrown _ _ _)))
  have ZSv := Lib.hid (fun (d : Nat) (os : Array Obj) => Sv.out av bv kv jv (grow (redrawn w21 d) os) (Rv.out.mono (below_regrown _ _ _)) (Rvq.out.mono (below_regrown _ _ _)))
  have ZSf := Lib.hid (fun (d : Nat) (os : Array Obj) => Sf.out af bf kf jf (grow (redrawn w21 d) os) (Rf.out.mono (below_regrown _ _ _)) (Rfq.out.mono (below_regrown _ _ _)))
  obtain ⟨bbc0, bbc1⟩ := twob Kb.out
  obtain ⟨bpc0, bpc1⟩ := twob Kp.out
  obtain ⟨bxmc0, bxmc1⟩ := twob Kxm.out
  obtain ⟨bxdc0, bxdc1⟩ := twob Kxd.out
  obtain ⟨bxuc0, bxuc1⟩ := twob Kxu.out
  obtain ⟨bxvc0, bxvc1⟩ := twob Kxv.out
  obtain ⟨bxfc0, bxfc1⟩ := twob Kxf.out
  obtain ⟨bymc0, bymc1, bymc2⟩ := three Kym.out
  obtain ⟨bydc0, bydc1, bydc2⟩ := three Kyd.out
  obtain ⟨byuc0, byuc1, byuc2⟩ := three Kyu.out
  obtain ⟨byvc0, byvc1, byvc2⟩ := three Kyv.out
  obtain ⟨byfc0, byfc1, byfc2⟩ := three Kyf.out
  have gc := grow_cell3
  have zzb := Kb.out.lt
  have zzp := Kp.out.lt
  have zzxm := Kxm.out.lt
  have zzxd := Kxd.out.lt
  have zzxu := Kxu.out.lt
  have zzxv := Kxv.out.lt
  have zzxf := Kxf.out.lt
  have zzym := Kym.out.lt
  have zzyd := Kyd.out.lt
  have zzyu := Kyu.out.lt
  have zzyv := Kyv.out.lt
  have zzyf := Kyf.out.lt
  go_wp2_with fail
  refine wp_region_quiet_below (by kernel_rfl) (by kernel_rfl) ?_
  repeat (go_big_quiet_step (first | (with_reducible exact Calls.regrown_of (QN.out _ _)) | (with_reducible exact Calls.regrown_of (ZPLT.out _ _)) | (with_reducible exact Calls.regrown_of (ZQLT.out _ _)) | (with_reducible exact Calls.regrown_of (ZPBK.out _ _)) | (with_reducible exact Calls.regrown_of (ZQBK.out _ _)) | (with_reducible exact Calls.regrown_of (ZSv.out _ _)) | (with_reducible exact Calls.regrown_of (ZSf.out _ _))))
  refine wpQuiet_nil ?_
  intro w22 hw'
  obtain ⟨⟨dq, osq⟩, hw''⟩ := hw'
  have hb := below_of_grow3 hw''
  clear hw'' gc zzb zzp zzxm zzxd zzxu zzxv zzxf zzym zzyd zzyu zzyv zzyf
  replace Kb := Lib.hid (Kb.out.below hb Kb.out.lt)
  replace Kp := Lib.hid (Kp.out.below hb Kp.out.lt)
  replace Kxm := Lib.hid (Kxm.out.below hb Kxm.out.lt)
  replace Kxd := Lib.hid (Kxd.out.below hb Kxd.out.lt)
  replace Kxu := Lib.hid (Kxu.out.below hb Kxu.out.lt)
  replace Kxv := Lib.hid (Kxv.out.below hb Kxv.out.lt)
  replace Kxf := Lib.hid (Kxf.out.below hb Kxf.out.lt)
  replace Kym := Lib.hid (Kym.out.below hb Kym.out.lt)
  replace Kyd := Lib.hid (Kyd.out.below hb Kyd.out.lt)
  replace Kyu := Lib.hid (Kyu.out.below hb Kyu.out.lt)
  replace Kyv := Lib.hid (Kyv.out.below hb Kyv.out.lt)
  replace Kyf := Lib.hid (Kyf.out.below hb Kyf.out.lt)
  replace Rm := Lib.hid (Rm.out.mono hb)
  replace Rd := Lib.hid (Rd.out.mono hb)
  replace Ru := Lib.hid (Ru.out.mono hb)
  replace Rv := Lib.hid (Rv.out.mono hb)
  replace Rf := Lib.hid (Rf.out.mono hb)
  replace Rmq := Lib.hid (Rmq.out.mono hb)
  replace Rdq := Lib.hid (Rdq.out.mono hb)
  replace Ruq := Lib.hid (Ruq.out.mono hb)
  replace Rvq := Lib.hid (Rvq.out.mono hb)
  replace Rfq := Lib.hid (Rfq.out.mono hb)
  replace B := Lib.hid (B.out.trans (hb.mono B.out.size))
  clear hb
  clear bbc0 bbc1 bpc0 bpc1 bxmc0 bxmc1 bxdc0 bxdc1 bxuc0 bxuc1 bxvc0 bxvc1 bxfc0 bxfc1 bymc0 bymc1 bymc2 bydc0 bydc1 bydc2 byuc0 byuc1 byuc2 byvc0 byvc1 byvc2 byfc0 byfc1 byfc2
  go_wp2
  go_ret
  exact ⟨rfl, B.out⟩
theorem law4 (len : Int) (a : Option Addr) (c : Nat) (l : List Rw) (wi n : Int) (lo hi : Int) (w : World) (hp : RwA w a l) : Calls Try.prog 4 #[.agg #[.int .i64 len, .slice a l.length c], .int .i64 wi, .int .i64 n, per lo hi] w fun e w' => e = .returned (.bool true) ∧ Below w.heap.size w w' := by
  by_cases hl : l.length ≤ 10001
  · by_cases h : 40 < l.length
    · by_cases h2 : l.length < 10000
      · exact law4_some len a c l wi n lo hi w hp h h2
      · exact law4_full len a c l wi n lo hi w hp hl h h2
    · exact law4_few len a c l wi n lo hi w hp hl h
  · exact law4_many len a c l wi n lo hi w hp (by omega)
end
end Go.Proofs.Ytcgdhankllphgaa
