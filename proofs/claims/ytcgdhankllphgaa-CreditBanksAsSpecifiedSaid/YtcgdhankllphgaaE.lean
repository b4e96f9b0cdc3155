/- Contracts: bad arguments of NewBank, Spend, Forget and Drop. -/
import Derived.Test.YtcgdhankllphgaaSP
import Derived.Test.YtcgdhankllphgaaFO
import Derived.Test.YtcgdhankllphgaaDR
import Derived.Test.YtcgdhankllphgaaD
namespace Go.Proofs.Ytcgdhankllphgaa
set_option linter.unusedVariables false
set_option linter.unusedSimpArgs false
open Go.RowKit
set_option maxRecDepth 100000 in
set_option maxHeartbeats 400000 in
theorem newbank_no (cap len : Int) (w : World) (no : ¬ OkB cap len []) :
    Calls Try.prog 9 #[.int .i64 cap, .int .i64 len] w fun e w' => e = .returned (.tuple #[.agg #[.int .i64 0, .int .i64 0, .slice none 0 0], .int .i64 1]) ∧ Below w.heap.size w w' := by
  have C := Lib.hid (fun X : World => valid_no no (by simp) none 0 X (RowsA.nil _ _ _ _))
  simp only [List.length_nil] at C
  clear no
  go_enter Try.func9, Try.ntmps9
  go_wp2_with fail
  refine (C.out _).mono ?_
  rintro e w1 ⟨rfl, hb⟩
  have K1 := Lib.hid (show Blk w1 w.heap.size 24 #[.int .i64 0, .int .i64 0, .slice none 0 0] from ((Blk.new' w _ _ _ rfl rfl).alloc _).below hb (by simp; omega))
  have K2 := Lib.hid (show Blk w1 (w.heap.size + 1) 24 #[.int .i64 cap, .int .i64 len, .slice none 0 0] from (Blk.new' _ _ _ _ (World.size_alloc _ _) rfl).below hb (by simp))
  have B := Lib.hid (bt (show Below w.heap.size w ((w.alloc (.cells #[.int .i64 0, .int .i64 0, .slice none 0 0] 24)).alloc (.cells #[.int .i64 cap, .int .i64 len, .slice none 0 0] 24)) by (repeat' (first | (with_reducible exact Below.refl _ _) | (with_reducible assumption) | (with_reducible refine Below.alloc ?_ ?_ _) | (with_reducible refine Below.drew ?_) | (with_reducible refine below_dn ?_) | (with_reducible refine Below.setCell ?_ ?_ _) | (with_reducible exact Nat.le_refl _) | omega | (simp only [World.size_alloc, World.size_setCell, World.size_drew]; omega) | (simp; omega) | (simp; done)))) hb)
  obtain ⟨d0, d1, d2⟩ := three K1.out
  obtain ⟨h0, h1, h2⟩ := three K2.out
  have fz := fun q => K1.out.frozen q
  clear hb C
  go_wp2
  have K3 := Lib.hid (K1.out.set3 (.int .i64 0) (.int .i64 0) (.slice none 0 0))
  have B3 := Lib.hid (below_set3 B.out (Nat.le_refl _) (.int .i64 0) (.int .i64 0) (.slice none 0 0))
  simp only [set3] at K3 B3
  generalize hw2 : ((w1.setCell ⟨w.heap.size, 0, none⟩ (.int .i64 0)).setCell ⟨w.heap.size, 1, none⟩ (.int .i64 0)).setCell ⟨w.heap.size, 2, none⟩ (.slice none 0 0) = w2 at K3 B3 ⊢
  clear hw2 d0 d1 d2 h0 h1 h2 fz K1 K2 B
  obtain ⟨d0, d1, d2⟩ := three K3.out
  refine bodyPost_ret (by simp [results, Try.results9, go_sem, d0, d1, d2]; try rfl) rfl ?_
  exact ⟨rfl, B3.out⟩
set_option maxRecDepth 100000 in
set_option maxHeartbeats 2000000 in
theorem spend_arg (len : Int) (a : Option Addr) (c : Nat) (l : List Rw) (lo hi : Int) (w : World) (hp : RwA w a l) (hm : l.length ≤ 9223372036854775807) (h : ¬ (OkP len l ∧ perB lo hi = true)) :
    Calls Try.prog 26 #[.agg #[.int .i64 len, .slice a l.length c], per lo hi] w fun e w' => e = .returned (.tuple #[.agg #[.int .i64 0, .slice none 0 0], .int .i64 1]) ∧ Below w.heap.size w w' := by
  have HP := Lib.hid hp
  by_cases ok : OkP len l
  · have C := Lib.hid (fun (X : World) (h : RwA X a l) => validp_yes ok a c X h)
    have CV := Lib.hid (fun X : World => cvalid_any lo hi X)
    have p1 : perB lo hi = false := by
      cases q : perB lo hi
      · rfl
      · exact absurd ⟨ok, q⟩ h
    rw [p1] at CV
    obtain ⟨N, hN⟩ : ∃ N, l.length = N := ⟨_, rfl⟩
    simp only [hN] at C
    rw [hN]
    clear h ok p1 hp hN hm
    go_enter Try.func26, Try.ntmps26
    obtain ⟨G, hG⟩ : ∃ G, w.heap.size = G := ⟨_, rfl⟩
    have K1 := Lib.hid (show Blk (((w.alloc (.cells #[.int .i64 len, .slice a N c] 45)).alloc (.cells #[.int .i64 lo, .int .i64 hi] 26)).alloc (.cells #[.int .i64 0, .slice none 0 0] 45)) G 45 #[.int .i64 len, .slice a N c] from ((Blk.new' w _ _ _ hG rfl).alloc _).alloc _)
    have KT := Lib.hid (show Blk (((w.alloc (.cells #[.int .i64 len, .slice a N c] 45)).alloc (.cells #[.int .i64 lo, .int .i64 hi] 26)).alloc (.cells #[.int .i64 0, .slice none 0 0] 45)) (G + 1) 26 #[.int .i64 lo, .int .i64 hi] from (Blk.new' _ _ _ _ (by rw [World.size_alloc, hG]) rfl).alloc _)
    have K2 := Lib.hid (show Blk (((w.alloc (.cells #[.int .i64 len, .slice a N c] 45)).alloc (.cells #[.int .i64 lo, .int .i64 hi] 26)).alloc (.cells #[.int .i64 0, .slice none 0 0] 45)) (G + 1 + 1) 45 #[.int .i64 0, .slice none 0 0] from Blk.new' _ _ _ _ (by rw [World.size_alloc, World.size_alloc, hG]) rfl)
    have B := Lib.hid (show Below G w (((w.alloc (.cells #[.int .i64 len, .slice a N c] 45)).alloc (.cells #[.int .i64 lo, .int .i64 hi] 26)).alloc (.cells #[.int .i64 0, .slice none 0 0] 45)) by rw [← hG]; (repeat' (first | (with_reducible exact Below.refl _ _) | (with_reducible assumption) | (with_reducible refine Below.alloc ?_ ?_ _) | (with_reducible refine Below.drew ?_) | (with_reducible refine below_dn ?_) | (with_reducible refine Below.setCell ?_ ?_ _) | (with_reducible exact Nat.le_refl _) | omega | (simp only [World.size_alloc, World.size_setCell, World.size_drew]; omega) | (simp; omega) | (simp; done))))
    have HG := Lib.hid hG
    have H0 := Lib.hid (HP.out.mono (show Below w.heap.size w (((w.alloc (.cells #[.int .i64 len, .slice a N c] 45)).alloc (.cells #[.int .i64 lo, .int .i64 hi] 26)).alloc (.cells #[.int .i64 0, .slice none 0 0] 45)) by (repeat' (first | (with_reducible exact Below.refl _ _) | (with_reducible assumption) | (with_reducible refine Below.alloc ?_ ?_ _) | (with_reducible refine Below.drew ?_) | (with_reducible refine below_dn ?_) | (with_reducible refine Below.setCell ?_ ?_ _) | (with_reducible exact Nat.le_refl _) | omega | (simp only [World.size_alloc, World.size_setCell, World.size_drew]; omega) | (simp; omega) | (simp; done)))))
    go_upto_region 1 with (fail)
    try rw [hG]
    generalize hw0 : (((w.alloc (.cells #[.int .i64 len, .slice a N c] 45)).alloc (.cells #[.int .i64 lo, .int .i64 hi] 26)).alloc (.cells #[.int .i64 0, .slice none 0 0] 45)) = w0 at K1 K2 KT B H0 ⊢
    clear hw0 hG
    obtain ⟨d0, d1⟩ := twob K1.out
    obtain ⟨h0, h1⟩ := twob K2.out
    have fz := fun q => K2.out.frozen q
    obtain ⟨t0, t1⟩ := twob KT.out
    go_wp2_with fail
    refine (C.out _ H0.out).mono ?_
    rintro e w1 ⟨rfl, hb⟩
    replace K1 := Lib.hid (K1.out.below hb K1.out.lt)
    replace K2 := Lib.hid (K2.out.below hb K2.out.lt)
    replace B := Lib.hid (B.out.trans (hb.mono (by have := B.out.size; have := HG.out; omega)))
    replace KT := Lib.hid (KT.out.below hb KT.out.lt)
    have H1 := Lib.hid (H0.out.mono hb)
    clear hb H0
    clear d0 d1 h0 h1 fz
    clear t0 t1
    obtain ⟨d0, d1⟩ := twob K1.out
    obtain ⟨h0, h1⟩ := twob K2.out
    have fz := fun q => K2.out.frozen q
    obtain ⟨t0, t1⟩ := twob KT.out
    go_wp2_with fail
    refine (CV.out _).mono ?_
    rintro e wv ⟨rfl, hb⟩
    replace K1 := Lib.hid (K1.out.below hb K1.out.lt)
    replace K2 := Lib.hid (K2.out.below hb K2.out.lt)
    replace B := Lib.hid (B.out.trans (hb.mono (by have := B.out.size; have := HG.out; omega)))
    replace KT := Lib.hid (KT.out.below hb KT.out.lt)
    replace H1 := Lib.hid (H1.out.mono hb)
    clear hb
    clear d0 d1 h0 h1 fz
    clear t0 t1
    obtain ⟨d0, d1⟩ := twob K1.out
    obtain ⟨h0, h1⟩ := twob K2.out
    have fz := fun q => K2.out.frozen q
    obtain ⟨t0, t1⟩ := twob KT.out
    go_wp2
    have K9 := Lib.hid (K2.out.set2 (.int .i64 0) (.slice none 0 0))
    have B9 := Lib.hid ((B.out.setCell (p := ⟨G + 1 + 1, 0, none⟩) (by simp; try omega) (.int .i64 0)).setCell (p := ⟨G + 1 + 1, 1, none⟩) (by simp; try omega) (.slice none 0 0))
    generalize hw2 : (wv.setCell ⟨G + 1 + 1, 0, none⟩ (.int .i64 0)).setCell ⟨G + 1 + 1, 1, none⟩ (.slice none 0 0) = w9 at K9 B9 ⊢
    clear hw2
    clear d0 d1 h0 h1 fz
    obtain ⟨d0, d1⟩ := twob K9.out
    refine bodyPost_ret (by simp [results, Try.results26, go_sem, d0, d1]; try rfl) rfl ?_
    exact ⟨rfl, by rw [HG.out]; exact B9.out⟩
  · have C := Lib.hid (fun (X : World) (h : RwA X a l) => validp_no ok hm a c X h)
    obtain ⟨N, hN⟩ : ∃ N, l.length = N := ⟨_, rfl⟩
    simp only [hN] at C
    rw [hN]
    clear h ok hp hN hm
    go_enter Try.func26, Try.ntmps26
    obtain ⟨G, hG⟩ : ∃ G, w.heap.size = G := ⟨_, rfl⟩
    have K1 := Lib.hid (show Blk (((w.alloc (.cells #[.int .i64 len, .slice a N c] 45)).alloc (.cells #[.int .i64 lo, .int .i64 hi] 26)).alloc (.cells #[.int .i64 0, .slice none 0 0] 45)) G 45 #[.int .i64 len, .slice a N c] from ((Blk.new' w _ _ _ hG rfl).alloc _).alloc _)
    have KT := Lib.hid (show Blk (((w.alloc (.cells #[.int .i64 len, .slice a N c] 45)).alloc (.cells #[.int .i64 lo, .int .i64 hi] 26)).alloc (.cells #[.int .i64 0, .slice none 0 0] 45)) (G + 1) 26 #[.int .i64 lo, .int .i64 hi] from (Blk.new' _ _ _ _ (by rw [World.size_alloc, hG]) rfl).alloc _)
    have K2 := Lib.hid (show Blk (((w.alloc (.cells #[.int .i64 len, .slice a N c] 45)).alloc (.cells #[.int .i64 lo, .int .i64 hi] 26)).alloc (.cells #[.int .i64 0, .slice none 0 0] 45)) (G + 1 + 1) 45 #[.int .i64 0, .slice none 0 0] from Blk.new' _ _ _ _ (by rw [World.size_alloc, World.size_alloc, hG]) rfl)
    have B := Lib.hid (show Below G w (((w.alloc (.cells #[.int .i64 len, .slice a N c] 45)).alloc (.cells #[.int .i64 lo, .int .i64 hi] 26)).alloc (.cells #[.int .i64 0, .slice none 0 0] 45)) by rw [← hG]; (repeat' (first | (with_reducible exact Below.refl _ _) | (with_reducible assumption) | (with_reducible refine Below.alloc ?_ ?_ _) | (with_reducible refine Below.drew ?_) | (with_reducible refine below_dn ?_) | (with_reducible refine Below.setCell ?_ ?_ _) | (with_reducible exact Nat.le_refl _) | omega | (simp only [World.size_alloc, World.size_setCell, World.size_drew]; omega) | (simp; omega) | (simp; done))))
    have HG := Lib.hid hG
    have H0 := Lib.hid (HP.out.mono (show Below w.heap.size w (((w.alloc (.cells #[.int .i64 len, .slice a N c] 45)).alloc (.cells #[.int .i64 lo, .int .i64 hi] 26)).alloc (.cells #[.int .i64 0, .slice none 0 0] 45)) by (repeat' (first | (with_reducible exact Below.refl _ _) | (with_reducible assumption) | (with_reducible refine Below.alloc ?_ ?_ _) | (with_reducible refine Below.drew ?_) | (with_reducible refine below_dn ?_) | (with_reducible refine Below.setCell ?_ ?_ _) | (with_reducible exact Nat.le_refl _) | omega | (simp only [World.size_alloc, World.size_setCell, World.size_drew]; omega) | (simp; omega) | (simp; done)))))
    go_upto_region 1 with (fail)
    try rw [hG]
    generalize hw0 : (((w.alloc (.cells #[.int .i64 len, .slice a N c] 45)).alloc (.cells #[.int .i64 lo, .int .i64 hi] 26)).alloc (.cells #[.int .i64 0, .slice none 0 0] 45)) = w0 at K1 K2 KT B H0 ⊢
    clear hw0 hG
    obtain ⟨d0, d1⟩ := twob K1.out
    obtain ⟨h0, h1⟩ := twob K2.out
    have fz := fun q => K2.out.frozen q
    obtain ⟨t0, t1⟩ := twob KT.out
    go_wp2_with fail
    refine (C.out _ H0.out).mono ?_
    rintro e w1 ⟨rfl, hb⟩
    replace K1 := Lib.hid (K1.out.below hb K1.out.lt)
    replace K2 := Lib.hid (K2.out.below hb K2.out.lt)
    replace B := Lib.hid (B.out.trans (hb.mono (by have := B.out.size; have := HG.out; omega)))
    replace KT := Lib.hid (KT.out.below hb KT.out.lt)
    have H1 := Lib.hid (H0.out.mono hb)
    clear hb H0
    clear d0 d1 h0 h1 fz
    clear t0 t1
    obtain ⟨d0, d1⟩ := twob K1.out
    obtain ⟨h0, h1⟩ := twob K2.out
    have fz := fun q => K2.out.frozen q
    obtain ⟨t0, t1⟩ := twob KT.out
    go_wp2
    have K9 := Lib.hid (K2.out.set2 (.int .i64 0) (.slice none 0 0))
    have B9 := Lib.hid ((B.out.setCell (p := ⟨G + 1 + 1, 0, none⟩) (by simp; try omega) (.int .i64 0)).setCell (p := ⟨G + 1 + 1, 1, none⟩) (by simp; try omega) (.slice none 0 0))
    generalize hw2 : (w1.setCell ⟨G + 1 + 1, 0, none⟩ (.int .i64 0)).setCell ⟨G + 1 + 1, 1, none⟩ (.slice none 0 0) = w9 at K9 B9 ⊢
    clear hw2
    clear d0 d1 h0 h1 fz
    obtain ⟨d0, d1⟩ := twob K9.out
    refine bodyPost_ret (by simp [results, Try.results26, go_sem, d0, d1]; try rfl) rfl ?_
    exact ⟨rfl, by rw [HG.out]; exact B9.out⟩
set_option maxRecDepth 100000 in
set_option maxHeartbeats 2000000 in
theorem drop_arg (len : Int) (a : Option Addr) (c : Nat) (l : List Rw) (lo hi : Int) (w : World) (hp : RwA w a l) (hm : l.length ≤ 9223372036854775807) (h : ¬ (OkP len l ∧ perB lo hi = true)) :
    Calls Try.prog 28 #[.agg #[.int .i64 len, .slice a l.length c], per lo hi] w fun e w' => e = .returned (.tuple #[.agg #[.int .i64 0, .slice none 0 0], .int .i64 1]) ∧ Below w.heap.size w w' := by
  have HP := Lib.hid hp
  by_cases ok : OkP len l
  · have C := Lib.hid (fun (X : World) (h : RwA X a l) => validp_yes ok a c X h)
    have CV := Lib.hid (fun X : World => cvalid_any lo hi X)
    have p1 : perB lo hi = false := by
      cases q : perB lo hi
      · rfl
      · exact absurd ⟨ok, q⟩ h
    rw [p1] at CV
    obtain ⟨N, hN⟩ : ∃ N, l.length = N := ⟨_, rfl⟩
    simp only [hN] at C
    rw [hN]
    clear h ok p1 hp hN hm
    go_enter Try.func28, Try.ntmps28
    obtain ⟨G, hG⟩ : ∃ G, w.heap.size = G := ⟨_, rfl⟩
    have K1 := Lib.hid (show Blk (((w.alloc (.cells #[.int .i64 len, .slice a N c] 45)).alloc (.cells #[.int .i64 lo, .int .i64 hi] 26)).alloc (.cells #[.int .i64 0, .slice none 0 0] 45)) G 45 #[.int .i64 len, .slice a N c] from ((Blk.new' w _ _ _ hG rfl).alloc _).alloc _)
    have KT := Lib.hid (show Blk (((w.alloc (.cells #[.int .i64 len, .slice a N c] 45)).alloc (.cells #[.int .i64 lo, .int .i64 hi] 26)).alloc (.cells #[.int .i64 0, .slice none 0 0] 45)) (G + 1) 26 #[.int .i64 lo, .int .i64 hi] from (Blk.new' _ _ _ _ (by rw [World.size_alloc, hG]) rfl).alloc _)
    have K2 := Lib.hid (show Blk (((w.alloc (.cells #[.int .i64 len, .slice a N c] 45)).alloc (.cells #[.int .i64 lo, .int .i64 hi] 26)).alloc (.cells #[.int .i64 0, .slice none 0 0] 45)) (G + 1 + 1) 45 #[.int .i64 0, .slice none 0 0] from Blk.new' _ _ _ _ (by rw [World.size_alloc, World.size_alloc, hG]) rfl)
    have B := Lib.hid (show Below G w (((w.alloc (.cells #[.int .i64 len, .slice a N c] 45)).alloc (.cells #[.int .i64 lo, .int .i64 hi] 26)).alloc (.cells #[.int .i64 0, .slice none 0 0] 45)) by rw [← hG]; (repeat' (first | (with_reducible exact Below.refl _ _) | (with_reducible assumption) | (with_reducible refine Below.alloc ?_ ?_ _) | (with_reducible refine Below.drew ?_) | (with_reducible refine below_dn ?_) | (with_reducible refine Below.setCell ?_ ?_ _) | (with_reducible exact Nat.le_refl _) | omega | (simp only [World.size_alloc, World.size_setCell, World.size_drew]; omega) | (simp; omega) | (simp; done))))
    have HG := Lib.hid hG
    have H0 := Lib.hid (HP.out.mono (show Below w.heap.size w (((w.alloc (.cells #[.int .i64 len, .slice a N c] 45)).alloc (.cells #[.int .i64 lo, .int .i64 hi] 26)).alloc (.cells #[.int .i64 0, .slice none 0 0] 45)) by (repeat' (first | (with_reducible exact Below.refl _ _) | (with_reducible assumption) | (with_reducible refine Below.alloc ?_ ?_ _) | (with_reducible refine Below.drew ?_) | (with_reducible refine below_dn ?_) | (with_reducible refine Below.setCell ?_ ?_ _) | (with_reducible exact Nat.le_refl _) | omega | (simp only [World.size_alloc, World.size_setCell, World.size_drew]; omega) | (simp; omega) | (simp; done)))))
    go_upto_region 1 with (fail)
    try rw [hG]
    generalize hw0 : (((w.alloc (.cells #[.int .i64 len, .slice a N c] 45)).alloc (.cells #[.int .i64 lo, .int .i64 hi] 26)).alloc (.cells #[.int .i64 0, .slice none 0 0] 45)) = w0 at K1 K2 KT B H0 ⊢
    clear hw0 hG
    obtain ⟨d0, d1⟩ := twob K1.out
    obtain ⟨h0, h1⟩ := twob K2.out
    have fz := fun q => K2.out.frozen q
    obtain ⟨t0, t1⟩ := twob KT.out
    go_wp2_with fail
    refine (C.out _ H0.out).mono ?_
    rintro e w1 ⟨rfl, hb⟩
    replace K1 := Lib.hid (K1.out.below hb K1.out.lt)
    replace K2 := Lib.hid (K2.out.below hb K2.out.lt)
    replace B := Lib.hid (B.out.trans (hb.mono (by have := B.out.size; have := HG.out; omega)))
    replace KT := Lib.hid (KT.out.below hb KT.out.lt)
    have H1 := Lib.hid (H0.out.mono hb)
    clear hb H0
    clear d0 d1 h0 h1 fz
    clear t0 t1
    obtain ⟨d0, d1⟩ := twob K1.out
    obtain ⟨h0, h1⟩ := twob K2.out
    have fz := fun q => K2.out.frozen q
    obtain ⟨t0, t1⟩ := twob KT.out
    go_wp2_with fail
    refine (CV.out _).mono ?_
    rintro e wv ⟨rfl, hb⟩
    replace K1 := Lib.hid (K1.out.below hb K1.out.lt)
    replace K2 := Lib.hid (K2.out.below hb K2.out.lt)
    replace B := Lib.hid (B.out.trans (hb.mono (by have := B.out.size; have := HG.out; omega)))
    replace KT := Lib.hid (KT.out.below hb KT.out.lt)
    replace H1 := Lib.hid (H1.out.mono hb)
    clear hb
    clear d0 d1 h0 h1 fz
    clear t0 t1
    obtain ⟨d0, d1⟩ := twob K1.out
    obtain ⟨h0, h1⟩ := twob K2.out
    have fz := fun q => K2.out.frozen q
    obtain ⟨t0, t1⟩ := twob KT.out
    go_wp2
    have K9 := Lib.hid (K2.out.set2 (.int .i64 0) (.slice none 0 0))
    have B9 := Lib.hid ((B.out.setCell (p := ⟨G + 1 + 1, 0, none⟩) (by simp; try omega) (.int .i64 0)).setCell (p := ⟨G + 1 + 1, 1, none⟩) (by simp; try omega) (.slice none 0 0))
    generalize hw2 : (wv.setCell ⟨G + 1 + 1, 0, none⟩ (.int .i64 0)).setCell ⟨G + 1 + 1, 1, none⟩ (.slice none 0 0) = w9 at K9 B9 ⊢
    clear hw2
    clear d0 d1 h0 h1 fz
    obtain ⟨d0, d1⟩ := twob K9.out
    refine bodyPost_ret (by simp [results, Try.results28, go_sem, d0, d1]; try rfl) rfl ?_
    exact ⟨rfl, by rw [HG.out]; exact B9.out⟩
  · have C := Lib.hid (fun (X : World) (h : RwA X a l) => validp_no ok hm a c X h)
    obtain ⟨N, hN⟩ : ∃ N, l.length = N := ⟨_, rfl⟩
    simp only [hN] at C
    rw [hN]
    clear h ok hp hN hm
    go_enter Try.func28, Try.ntmps28
    obtain ⟨G, hG⟩ : ∃ G, w.heap.size = G := ⟨_, rfl⟩
    have K1 := Lib.hid (show Blk (((w.alloc (.cells #[.int .i64 len, .slice a N c] 45)).alloc (.cells #[.int .i64 lo, .int .i64 hi] 26)).alloc (.cells #[.int .i64 0, .slice none 0 0] 45)) G 45 #[.int .i64 len, .slice a N c] from ((Blk.new' w _ _ _ hG rfl).alloc _).alloc _)
    have KT := Lib.hid (show Blk (((w.alloc (.cells #[.int .i64 len, .slice a N c] 45)).alloc (.cells #[.int .i64 lo, .int .i64 hi] 26)).alloc (.cells #[.int .i64 0, .slice none 0 0] 45)) (G + 1) 26 #[.int .i64 lo, .int .i64 hi] from (Blk.new' _ _ _ _ (by rw [World.size_alloc, hG]) rfl).alloc _)
    have K2 := Lib.hid (show Blk (((w.alloc (.cells #[.int .i64 len, .slice a N c] 45)).alloc (.cells #[.int .i64 lo, .int .i64 hi] 26)).alloc (.cells #[.int .i64 0, .slice none 0 0] 45)) (G + 1 + 1) 45 #[.int .i64 0, .slice none 0 0] from Blk.new' _ _ _ _ (by rw [World.size_alloc, World.size_alloc, hG]) rfl)
    have B := Lib.hid (show Below G w (((w.alloc (.cells #[.int .i64 len, .slice a N c] 45)).alloc (.cells #[.int .i64 lo, .int .i64 hi] 26)).alloc (.cells #[.int .i64 0, .slice none 0 0] 45)) by rw [← hG]; (repeat' (first | (with_reducible exact Below.refl _ _) | (with_reducible assumption) | (with_reducible refine Below.alloc ?_ ?_ _) | (with_reducible refine Below.drew ?_) | (with_reducible refine below_dn ?_) | (with_reducible refine Below.setCell ?_ ?_ _) | (with_reducible exact Nat.le_refl _) | omega | (simp only [World.size_alloc, World.size_setCell, World.size_drew]; omega) | (simp; omega) | (simp; done))))
    have HG := Lib.hid hG
    have H0 := Lib.hid (HP.out.mono (show Below w.heap.size w (((w.alloc (.cells #[.int .i64 len, .slice a N c] 45)).alloc (.cells #[.int .i64 lo, .int .i64 hi] 26)).alloc (.cells #[.int .i64 0, .slice none 0 0] 45)) by (repeat' (first | (with_reducible exact Below.refl _ _) | (with_reducible assumption) | (with_reducible refine Below.alloc ?_ ?_ _) | (with_reducible refine Below.drew ?_) | (with_reducible refine below_dn ?_) | (with_reducible refine Below.setCell ?_ ?_ _) | (with_reducible exact Nat.le_refl _) | omega | (simp only [World.size_alloc, World.size_setCell, World.size_drew]; omega) | (simp; omega) | (simp; done)))))
    go_upto_region 1 with (fail)
    try rw [hG]
    generalize hw0 : (((w.alloc (.cells #[.int .i64 len, .slice a N c] 45)).alloc (.cells #[.int .i64 lo, .int .i64 hi] 26)).alloc (.cells #[.int .i64 0, .slice none 0 0] 45)) = w0 at K1 K2 KT B H0 ⊢
    clear hw0 hG
    obtain ⟨d0, d1⟩ := twob K1.out
    obtain ⟨h0, h1⟩ := twob K2.out
    have fz := fun q => K2.out.frozen q
    obtain ⟨t0, t1⟩ := twob KT.out
    go_wp2_with fail
    refine (C.out _ H0.out).mono ?_
    rintro e w1 ⟨rfl, hb⟩
    replace K1 := Lib.hid (K1.out.below hb K1.out.lt)
    replace K2 := Lib.hid (K2.out.below hb K2.out.lt)
    replace B := Lib.hid (B.out.trans (hb.mono (by have := B.out.size; have := HG.out; omega)))
    replace KT := Lib.hid (KT.out.below hb KT.out.lt)
    have H1 := Lib.hid (H0.out.mono hb)
    clear hb H0
    clear d0 d1 h0 h1 fz
    clear t0 t1
    obtain ⟨d0, d1⟩ := twob K1.out
    obtain ⟨h0, h1⟩ := twob K2.out
    have fz := fun q => K2.out.frozen q
    obtain ⟨t0, t1⟩ := twob KT.out
    go_wp2
    have K9 := Lib.hid (K2.out.set2 (.int .i64 0) (.slice none 0 0))
    have B9 := Lib.hid ((B.out.setCell (p := ⟨G + 1 + 1, 0, none⟩) (by simp; try omega) (.int .i64 0)).setCell (p := ⟨G + 1 + 1, 1, none⟩) (by simp; try omega) (.slice none 0 0))
    generalize hw2 : (w1.setCell ⟨G + 1 + 1, 0, none⟩ (.int .i64 0)).setCell ⟨G + 1 + 1, 1, none⟩ (.slice none 0 0) = w9 at K9 B9 ⊢
    clear hw2
    clear d0 d1 h0 h1 fz
    obtain ⟨d0, d1⟩ := twob K9.out
    refine bodyPost_ret (by simp [results, Try.results28, go_sem, d0, d1]; try rfl) rfl ?_
    exact ⟨rfl, by rw [HG.out]; exact B9.out⟩
set_option maxRecDepth 100000 in
set_option maxHeartbeats 2000000 in
theorem forget_arg (cap len : Int) (a : Option Addr) (c : Nat) (l : List Rw) (lo hi : Int) (w : World) (hp : RwA w a l) (hm : l.length ≤ 9223372036854775807) (h : ¬ (OkB cap len l ∧ perB lo hi = true)) :
    Calls Try.prog 12 #[.agg #[.int .i64 cap, .int .i64 len, .slice a l.length c], per lo hi] w fun e w' => e = .returned (.tuple #[.agg #[.int .i64 0, .int .i64 0, .slice none 0 0], .int .i64 1]) ∧ Below w.heap.size w w' := by
  have HP := Lib.hid hp
  by_cases ok : OkB cap len l
  · have C := Lib.hid (fun (X : World) (h : RwA X a l) => valid_yes ok a c X h)
    have CV := Lib.hid (fun X : World => cvalid_any lo hi X)
    have p1 : perB lo hi = false := by
      cases q : perB lo hi
      · rfl
      · exact absurd ⟨ok, q⟩ h
    rw [p1] at CV
    obtain ⟨N, hN⟩ : ∃ N, l.length = N := ⟨_, rfl⟩
    simp only [hN] at C
    rw [hN]
    clear h ok p1 hp hN hm
    go_enter Try.func12, Try.ntmps12
    obtain ⟨G, hG⟩ : ∃ G, w.heap.size = G := ⟨_, rfl⟩
    have K1 := Lib.hid (show Blk (((w.alloc (.cells #[.int .i64 cap, .int .i64 len, .slice a N c] 24)).alloc (.cells #[.int .i64 lo, .int .i64 hi] 26)).alloc (.cells #[.int .i64 0, .int .i64 0, .slice none 0 0] 24)) G 24 #[.int .i64 cap, .int .i64 len, .slice a N c] from ((Blk.new' w _ _ _ hG rfl).alloc _).alloc _)
    have KT := Lib.hid (show Blk (((w.alloc (.cells #[.int .i64 cap, .int .i64 len, .slice a N c] 24)).alloc (.cells #[.int .i64 lo, .int .i64 hi] 26)).alloc (.cells #[.int .i64 0, .int .i64 0, .slice none 0 0] 24)) (G + 1) 26 #[.int .i64 lo, .int .i64 hi] from (Blk.new' _ _ _ _ (by rw [World.size_alloc, hG]) rfl).alloc _)
    have K2 := Lib.hid (show Blk (((w.alloc (.cells #[.int .i64 cap, .int .i64 len, .slice a N c] 24)).alloc (.cells #[.int .i64 lo, .int .i64 hi] 26)).alloc (.cells #[.int .i64 0, .int .i64 0, .slice none 0 0] 24)) (G + 1 + 1) 24 #[.int .i64 0, .int .i64 0, .slice none 0 0] from Blk.new' _ _ _ _ (by rw [World.size_alloc, World.size_alloc, hG]) rfl)
    have B := Lib.hid (show Below G w (((w.alloc (.cells #[.int .i64 cap, .int .i64 len, .slice a N c] 24)).alloc (.cells #[.int .i64 lo, .int .i64 hi] 26)).alloc (.cells #[.int .i64 0, .int .i64 0, .slice none 0 0] 24)) by rw [← hG]; (repeat' (first | (with_reducible exact Below.refl _ _) | (with_reducible assumption) | (with_reducible refine Below.alloc ?_ ?_ _) | (with_reducible refine Below.drew ?_) | (with_reducible refine below_dn ?_) | (with_reducible refine Below.setCell ?_ ?_ _) | (with_reducible exact Nat.le_refl _) | omega | (simp only [World.size_alloc, World.size_setCell, World.size_drew]; omega) | (simp; omega) | (simp; done))))
    have HG := Lib.hid hG
    have H0 := Lib.hid (HP.out.mono (show Below w.heap.size w (((w.alloc (.cells #[.int .i64 cap, .int .i64 len, .slice a N c] 24)).alloc (.cells #[.int .i64 lo, .int .i64 hi] 26)).alloc (.cells #[.int .i64 0, .int .i64 0, .slice none 0 0] 24)) by (repeat' (first | (with_reducible exact Below.refl _ _) | (with_reducible assumption) | (with_reducible refine Below.alloc ?_ ?_ _) | (with_reducible refine Below.drew ?_) | (with_reducible refine below_dn ?_) | (with_reducible refine Below.setCell ?_ ?_ _) | (with_reducible exact Nat.le_refl _) | omega | (simp only [World.size_alloc, World.size_setCell, World.size_drew]; omega) | (simp; omega) | (simp; done)))))
    go_upto_region 1 with (fail)
    try rw [hG]
    generalize hw0 : (((w.alloc (.cells #[.int .i64 cap, .int .i64 len, .slice a N c] 24)).alloc (.cells #[.int .i64 lo, .int .i64 hi] 26)).alloc (.cells #[.int .i64 0, .int .i64 0, .slice none 0 0] 24)) = w0 at K1 K2 KT B H0 ⊢
    clear hw0 hG
    obtain ⟨d0, d1, d2⟩ := three K1.out
    obtain ⟨h0, h1, h2⟩ := three K2.out
    have fz := fun q => K2.out.frozen q
    obtain ⟨t0, t1⟩ := twob KT.out
    go_wp2_with fail
    refine (C.out _ H0.out).mono ?_
    rintro e w1 ⟨rfl, hb⟩
    replace K1 := Lib.hid (K1.out.below hb K1.out.lt)
    replace K2 := Lib.hid (K2.out.below hb K2.out.lt)
    replace B := Lib.hid (B.out.trans (hb.mono (by have := B.out.size; have := HG.out; omega)))
    replace KT := Lib.hid (KT.out.below hb KT.out.lt)
    have H1 := Lib.hid (H0.out.mono hb)
    clear hb H0
    clear d0 d1 d2 h0 h1 h2 fz
    clear t0 t1
    obtain ⟨d0, d1, d2⟩ := three K1.out
    obtain ⟨h0, h1, h2⟩ := three K2.out
    have fz := fun q => K2.out.frozen q
    obtain ⟨t0, t1⟩ := twob KT.out
    go_wp2_with fail
    refine (CV.out _).mono ?_
    rintro e wv ⟨rfl, hb⟩
    replace K1 := Lib.hid (K1.out.below hb K1.out.lt)
    replace K2 := Lib.hid (K2.out.below hb K2.out.lt)
    replace B := Lib.hid (B.out.trans (hb.mono (by have := B.out.size; have := HG.out; omega)))
    replace KT := Lib.hid (KT.out.below hb KT.out.lt)
    replace H1 := Lib.hid (H1.out.mono hb)
    clear hb
    clear d0 d1 d2 h0 h1 h2 fz
    clear t0 t1
    obtain ⟨d0, d1, d2⟩ := three K1.out
    obtain ⟨h0, h1, h2⟩ := three K2.out
    have fz := fun q => K2.out.frozen q
    obtain ⟨t0, t1⟩ := twob KT.out
    go_wp2
    have K9 := Lib.hid (K2.out.set3 (.int .i64 0) (.int .i64 0) (.slice none 0 0))
    have B9 := Lib.hid (((B.out.setCell (p := ⟨G + 1 + 1, 0, none⟩) (by simp; try omega) (.int .i64 0)).setCell (p := ⟨G + 1 + 1, 1, none⟩) (by simp; try omega) (.int .i64 0)).setCell (p := ⟨G + 1 + 1, 2, none⟩) (by simp; try omega) (.slice none 0 0))
    simp only [set3] at K9
    generalize hw2 : ((wv.setCell ⟨G + 1 + 1, 0, none⟩ (.int .i64 0)).setCell ⟨G + 1 + 1, 1, none⟩ (.int .i64 0)).setCell ⟨G + 1 + 1, 2, none⟩ (.slice none 0 0) = w9 at K9 B9 ⊢
    clear hw2
    clear d0 d1 d2 h0 h1 h2 fz
    obtain ⟨d0, d1, d2⟩ := three K9.out
    refine bodyPost_ret (by simp [results, Try.results12, go_sem, d0, d1, d2]; try rfl) rfl ?_
    exact ⟨rfl, by rw [HG.out]; exact B9.out⟩
  · have C := Lib.hid (fun (X : World) (h : RwA X a l) => valid_no ok hm a c X h)
    obtain ⟨N, hN⟩ : ∃ N, l.length = N := ⟨_, rfl⟩
    simp only [hN] at C
    rw [hN]
    clear h ok hp hN hm
    go_enter Try.func12, Try.ntmps12
    obtain ⟨G, hG⟩ : ∃ G, w.heap.size = G := ⟨_, rfl⟩
    have K1 := Lib.hid (show Blk (((w.alloc (.cells #[.int .i64 cap, .int .i64 len, .slice a N c] 24)).alloc (.cells #[.int .i64 lo, .int .i64 hi] 26)).alloc (.cells #[.int .i64 0, .int .i64 0, .slice none 0 0] 24)) G 24 #[.int .i64 cap, .int .i64 len, .slice a N c] from ((Blk.new' w _ _ _ hG rfl).alloc _).alloc _)
    have KT := Lib.hid (show Blk (((w.alloc (.cells #[.int .i64 cap, .int .i64 len, .slice a N c] 24)).alloc (.cells #[.int .i64 lo, .int .i64 hi] 26)).alloc (.cells #[.int .i64 0, .int .i64 0, .slice none 0 0] 24)) (G + 1) 26 #[.int .i64 lo, .int .i64 hi] from (Blk.new' _ _ _ _ (by rw [World.size_alloc, hG]) rfl).alloc _)
    have K2 := Lib.hid (show Blk (((w.alloc (.cells #[.int .i64 cap, .int .i64 len, .slice a N c] 24)).alloc (.cells #[.int .i64 lo, .int .i64 hi] 26)).alloc (.cells #[.int .i64 0, .int .i64 0, .slice none 0 0] 24)) (G + 1 + 1) 24 #[.int .i64 0, .int .i64 0, .slice none 0 0] from Blk.new' _ _ _ _ (by rw [World.size_alloc, World.size_alloc, hG]) rfl)
    have B := Lib.hid (show Below G w (((w.alloc (.cells #[.int .i64 cap, .int .i64 len, .slice a N c] 24)).alloc (.cells #[.int .i64 lo, .int .i64 hi] 26)).alloc (.cells #[.int .i64 0, .int .i64 0, .slice none 0 0] 24)) by rw [← hG]; (repeat' (first | (with_reducible exact Below.refl _ _) | (with_reducible assumption) | (with_reducible refine Below.alloc ?_ ?_ _) | (with_reducible refine Below.drew ?_) | (with_reducible refine below_dn ?_) | (with_reducible refine Below.setCell ?_ ?_ _) | (with_reducible exact Nat.le_refl _) | omega | (simp only [World.size_alloc, World.size_setCell, World.size_drew]; omega) | (simp; omega) | (simp; done))))
    have HG := Lib.hid hG
    have H0 := Lib.hid (HP.out.mono (show Below w.heap.size w (((w.alloc (.cells #[.int .i64 cap, .int .i64 len, .slice a N c] 24)).alloc (.cells #[.int .i64 lo, .int .i64 hi] 26)).alloc (.cells #[.int .i64 0, .int .i64 0, .slice none 0 0] 24)) by (repeat' (first | (with_reducible exact Below.refl _ _) | (with_reducible assumption) | (with_reducible refine Below.alloc ?_ ?_ _) | (with_reducible refine Below.drew ?_) | (with_reducible refine below_dn ?_) | (with_reducible refine Below.setCell ?_ ?_ _) | (with_reducible exact Nat.le_refl _) | omega | (simp only [World.size_alloc, World.size_setCell, World.size_drew]; omega) | (simp; omega) | (simp; done)))))
    go_upto_region 1 with (fail)
    try rw [hG]
    generalize hw0 : (((w.alloc (.cells #[.int .i64 cap, .int .i64 len, .slice a N c] 24)).alloc (.cells #[.int .i64 lo, .int .i64 hi] 26)).alloc (.cells #[.int .i64 0, .int .i64 0, .slice none 0 0] 24)) = w0 at K1 K2 KT B H0 ⊢
    clear hw0 hG
    obtain ⟨d0, d1, d2⟩ := three K1.out
    obtain ⟨h0, h1, h2⟩ := three K2.out
    have fz := fun q => K2.out.frozen q
    obtain ⟨t0, t1⟩ := twob KT.out
    go_wp2_with fail
    refine (C.out _ H0.out).mono ?_
    rintro e w1 ⟨rfl, hb⟩
    replace K1 := Lib.hid (K1.out.below hb K1.out.lt)
    replace K2 := Lib.hid (K2.out.below hb K2.out.lt)
    replace B := Lib.hid (B.out.trans (hb.mono (by have := B.out.size; have := HG.out; omega)))
    replace KT := Lib.hid (KT.out.below hb KT.out.lt)
    have H1 := Lib.hid (H0.out.mono hb)
    clear hb H0
    clear d0 d1 d2 h0 h1 h2 fz
    clear t0 t1
    obtain ⟨d0, d1, d2⟩ := three K1.out
    obtain ⟨h0, h1, h2⟩ := three K2.out
    have fz := fun q => K2.out.frozen q
    obtain ⟨t0, t1⟩ := twob KT.out
    go_wp2
    have K9 := Lib.hid (K2.out.set3 (.int .i64 0) (.int .i64 0) (.slice none 0 0))
    have B9 := Lib.hid (((B.out.setCell (p := ⟨G + 1 + 1, 0, none⟩) (by simp; try omega) (.int .i64 0)).setCell (p := ⟨G + 1 + 1, 1, none⟩) (by simp; try omega) (.int .i64 0)).setCell (p := ⟨G + 1 + 1, 2, none⟩) (by simp; try omega) (.slice none 0 0))
    simp only [set3] at K9
    generalize hw2 : ((w1.setCell ⟨G + 1 + 1, 0, none⟩ (.int .i64 0)).setCell ⟨G + 1 + 1, 1, none⟩ (.int .i64 0)).setCell ⟨G + 1 + 1, 2, none⟩ (.slice none 0 0) = w9 at K9 B9 ⊢
    clear hw2
    clear d0 d1 d2 h0 h1 h2 fz
    obtain ⟨d0, d1, d2⟩ := three K9.out
    refine bodyPost_ret (by simp [results, Try.results12, go_sem, d0, d1, d2]; try rfl) rfl ?_
    exact ⟨rfl, by rw [HG.out]; exact B9.out⟩
end Go.Proofs.Ytcgdhankllphgaa
