/- The references of purses (RH, RG, PW, RP in one text) -/
import Derived.Test.YtcgdhankllphgaaRX
import Derived.Test.YtcgdhankllphgaaVQ
import Derived.Test.YtcgdhankllphgaaCL
import Derived.Test.YtcgdhankllphgaaPU
import Derived.Test.YtcgdhankllphgaaRT
import Derived.Test.YtcgdhankllphgaaSP
namespace Go.Proofs.Ytcgdhankllphgaa
set_option linter.unusedVariables false
set_option linter.unusedSimpArgs false
section
open Go.RowKit Go.Sort
theorem RwA.blk_lt {W : World} {a : Option Addr} {l : List Rw} (h : RwA W a l) {k : Nat} (hk : k < l.length) {b off : Nat} (e : a = some ⟨b, off, none⟩) : b < W.heap.size := by
  obtain ⟨b', off', e', q0, q1, q2, q3⟩ := RwA.at_ h hk
  rw [e] at e'
  injection e' with e'
  injection e' with e1 e2 e3
  subst e1
  exact block_lt_of_cell q0
theorem RwA.cells_ {W : World} {a : Option Addr} {l : List Rw} (h : RwA W a l) {k : Nat} (hk : k < l.length) {b off : Nat} (e : a = some ⟨b, off, none⟩) :
    W.cell? ⟨b, off + k * 4, none⟩ = some (.int .i64 (l.getD k r0).1) ∧ W.cell? ⟨b, off + k * 4 + 1, none⟩ = some (.int .i64 (l.getD k r0).2.1) ∧ W.cell? ⟨b, off + k * 4 + 2, none⟩ = some (.int .i64 (l.getD k r0).2.2.1) ∧ W.cell? ⟨b, off + k * 4 + 3, none⟩ = some (.int .i64 (l.getD k r0).2.2.2) := by
  obtain ⟨b', off', e', q0, q1, q2, q3⟩ := RwA.at_ h hk
  rw [e] at e'
  injection e' with e'
  injection e' with e1 e2 e3
  subst e1; subst e2
  exact ⟨q0, q1, q2, q3⟩
end
section
open Go.RowKit Go.Sort
set_option maxRecDepth 100000 in
set_option maxHeartbeats 2000000 in
theorem dropref_arg (len : Int) (a : Option Addr) (c : Nat) (l : List Rw) (lo hi : Int) (w : World) (hp : RwA w a l) (h : ¬ (OkP len l ∧ perB lo hi = true)) (hm : l.length ≤ 9223372036854775807) :
    Calls Try.prog 33 #[.agg #[.int .i64 len, .slice a l.length c], per lo hi] w fun e w' => e = .returned (.agg #[.int .i64 0, .slice none 0 0, .int .i64 1]) ∧ Below w.heap.size w w' := by
  have HP := Lib.hid hp
  obtain ⟨N, hN⟩ : ∃ N, l.length = N := ⟨_, rfl⟩
  by_cases ok : OkP len l
  · have C := Lib.hid (fun (X : World) (h : RwA X a l) => rvalidp_yes ok a c X h)
    simp only [hN] at C
    have PV := Lib.hid (fun X : World => pvalidref_any lo hi X)
    have e : perB lo hi = false := by
      cases q : perB lo hi
      · rfl
      · exact absurd ⟨ok, q⟩ h
    rw [e] at PV
    rw [hN]
    clear h ok hp hN hm e
    go_enter Try.func33, Try.ntmps33
    obtain ⟨G, hG⟩ : ∃ G, w.heap.size = G := ⟨_, rfl⟩
    have HG := Lib.hid hG
    have Kb := Lib.hid (show Blk (((w.alloc (.cells #[.int .i64 len, .slice a N c] 45)).alloc (.cells #[.int .i64 lo, .int .i64 hi] 26)).alloc (.cells #[.int .i64 0, .slice none 0 0, .int .i64 0] 51)) (G) 45 #[.int .i64 len, .slice a N c] from ((Blk.new' _ _ _ _ hG rfl).alloc _).alloc _)
    have Kp := Lib.hid (show Blk (((w.alloc (.cells #[.int .i64 len, .slice a N c] 45)).alloc (.cells #[.int .i64 lo, .int .i64 hi] 26)).alloc (.cells #[.int .i64 0, .slice none 0 0, .int .i64 0] 51)) (G + 1) 26 #[.int .i64 lo, .int .i64 hi] from (Blk.new' _ _ _ _ (by rw [World.size_alloc, hG]) rfl).alloc _)
    have Kr := Lib.hid (show Blk (((w.alloc (.cells #[.int .i64 len, .slice a N c] 45)).alloc (.cells #[.int .i64 lo, .int .i64 hi] 26)).alloc (.cells #[.int .i64 0, .slice none 0 0, .int .i64 0] 51)) (G + 1 + 1) 51 #[.int .i64 0, .slice none 0 0, .int .i64 0] from Blk.new' _ _ _ _ (by rw [World.size_alloc, World.size_alloc, hG]) rfl)
    have B := Lib.hid (show Below w.heap.size w (((w.alloc (.cells #[.int .i64 len, .slice a N c] 45)).alloc (.cells #[.int .i64 lo, .int .i64 hi] 26)).alloc (.cells #[.int .i64 0, .slice none 0 0, .int .i64 0] 51)) by (repeat' (first | (with_reducible exact Below.refl _ _) | (with_reducible assumption) | (with_reducible refine Below.alloc ?_ ?_ _) | (with_reducible refine Below.drew ?_) | (with_reducible refine below_dn ?_) | (with_reducible refine Below.setCell ?_ ?_ _) | (with_reducible exact Nat.le_refl _) | omega | (simp only [World.size_alloc, World.size_setCell, World.size_drew]; omega) | (simp; omega) | (simp; done))))
    go_upto_region 1 with (fail)
    try rw [hG]
    generalize hw0 : (((w.alloc (.cells #[.int .i64 len, .slice a N c] 45)).alloc (.cells #[.int .i64 lo, .int .i64 hi] 26)).alloc (.cells #[.int .i64 0, .slice none 0 0, .int .i64 0] 51)) = w0 at Kb Kp Kr B ⊢
    clear hw0 hG
    obtain ⟨bbc0, bbc1⟩ := twob Kb.out
    obtain ⟨bpc0, bpc1⟩ := twob Kp.out
    obtain ⟨brc0, brc1, brc2⟩ := three Kr.out
    go_wp2_with fail
    refine (C.out _ (HP.out.mono B.out)).mono ?_
    rintro e w1 ⟨rfl, hb⟩
    replace Kb := Lib.hid (Kb.out.below hb Kb.out.lt)
    replace Kp := Lib.hid (Kp.out.below hb Kp.out.lt)
    replace Kr := Lib.hid (Kr.out.below hb Kr.out.lt)
    replace B := Lib.hid (B.out.trans (hb.mono B.out.size))
    clear bbc0 bbc1 bpc0 bpc1 brc0 brc1 brc2
    clear hb
    obtain ⟨bbc0, bbc1⟩ := twob Kb.out
    obtain ⟨bpc0, bpc1⟩ := twob Kp.out
    obtain ⟨brc0, brc1, brc2⟩ := three Kr.out
    go_wp2_with fail
    refine (PV.out _).mono ?_
    rintro e w2 ⟨rfl, hb⟩
    replace Kb := Lib.hid (Kb.out.below hb Kb.out.lt)
    replace Kp := Lib.hid (Kp.out.below hb Kp.out.lt)
    replace Kr := Lib.hid (Kr.out.below hb Kr.out.lt)
    replace B := Lib.hid (B.out.trans (hb.mono B.out.size))
    clear bbc0 bbc1 bpc0 bpc1 brc0 brc1 brc2
    clear hb
    obtain ⟨bbc0, bbc1⟩ := twob Kb.out
    obtain ⟨bpc0, bpc1⟩ := twob Kp.out
    obtain ⟨brc0, brc1, brc2⟩ := three Kr.out
    clear bbc0 bbc1 bpc0 bpc1 brc0 brc1 brc2
    obtain ⟨bbc0, bbc1⟩ := twob Kb.out
    obtain ⟨bpc0, bpc1⟩ := twob Kp.out
    obtain ⟨brc0, brc1, brc2⟩ := three Kr.out
    have fzr := fun q => Kr.out.frozen q
    go_wp2
    have K9 := Lib.hid (Kr.out.set3 (.int .i64 0) (.slice none 0 0) (.int .i64 1))
    have B9 := (((B.out.setCell (p := ⟨G + 1 + 1, 0, none⟩) (show w.heap.size ≤ G + 1 + 1 by have := HG.out; omega) (.int .i64 0)).setCell (p := ⟨G + 1 + 1, 1, none⟩) (show w.heap.size ≤ G + 1 + 1 by have := HG.out; omega) (.slice none 0 0)).setCell (p := ⟨G + 1 + 1, 2, none⟩) (show w.heap.size ≤ G + 1 + 1 by have := HG.out; omega) (.int .i64 1))
    simp only [set3] at K9
    generalize hw2 : (((w2.setCell ⟨G + 1 + 1, 0, none⟩ (.int .i64 0)).setCell ⟨G + 1 + 1, 1, none⟩ (.slice none 0 0)).setCell ⟨G + 1 + 1, 2, none⟩ (.int .i64 1)) = w9 at K9 B9 ⊢
    clear bbc0 bbc1 bpc0 bpc1 brc0 brc1 brc2 fzr
    clear hw2
    obtain ⟨d0, d1, d2⟩ := three K9.out
    refine bodyPost_ret (by simp [results, Try.results33, go_sem, d0, d1, d2]; try rfl) rfl ?_
    exact ⟨rfl, B9⟩
  · have C := Lib.hid (fun (X : World) (h : RwA X a l) => rvalidp_no ok hm a c X h)
    simp only [hN] at C
    rw [hN]
    clear h ok hp hN hm
    go_enter Try.func33, Try.ntmps33
    obtain ⟨G, hG⟩ : ∃ G, w.heap.size = G := ⟨_, rfl⟩
    have HG := Lib.hid hG
    have Kb := Lib.hid (show Blk (((w.alloc (.cells #[.int .i64 len, .slice a N c] 45)).alloc (.cells #[.int .i64 lo, .int .i64 hi] 26)).alloc (.cells #[.int .i64 0, .slice none 0 0, .int .i64 0] 51)) (G) 45 #[.int .i64 len, .slice a N c] from ((Blk.new' _ _ _ _ hG rfl).alloc _).alloc _)
    have Kp := Lib.hid (show Blk (((w.alloc (.cells #[.int .i64 len, .slice a N c] 45)).alloc (.cells #[.int .i64 lo, .int .i64 hi] 26)).alloc (.cells #[.int .i64 0, .slice none 0 0, .int .i64 0] 51)) (G + 1) 26 #[.int .i64 lo, .int .i64 hi] from (Blk.new' _ _ _ _ (by rw [World.size_alloc, hG]) rfl).alloc _)
    have Kr := Lib.hid (show Blk (((w.alloc (.cells #[.int .i64 len, .slice a N c] 45)).alloc (.cells #[.int .i64 lo, .int .i64 hi] 26)).alloc (.cells #[.int .i64 0, .slice none 0 0, .int .i64 0] 51)) (G + 1 + 1) 51 #[.int .i64 0, .slice none 0 0, .int .i64 0] from Blk.new' _ _ _ _ (by rw [World.size_alloc, World.size_alloc, hG]) rfl)
    have B := Lib.hid (show Below w.heap.size w (((w.alloc (.cells #[.int .i64 len, .slice a N c] 45)).alloc (.cells #[.int .i64 lo, .int .i64 hi] 26)).alloc (.cells #[.int .i64 0, .slice none 0 0, .int .i64 0] 51)) by (repeat' (first | (with_reducible exact Below.refl _ _) | (with_reducible assumption) | (with_reducible refine Below.alloc ?_ ?_ _) | (with_reducible refine Below.drew ?_) | (with_reducible refine below_dn ?_) | (with_reducible refine Below.setCell ?_ ?_ _) | (with_reducible exact Nat.le_refl _) | omega | (simp only [World.size_alloc, World.size_setCell, World.size_drew]; omega) | (simp; omega) | (simp; done))))
    go_upto_region 1 with (fail)
    try rw [hG]
    generalize hw0 : (((w.alloc (.cells #[.int .i64 len, .slice a N c] 45)).alloc (.cells #[.int .i64 lo, .int .i64 hi] 26)).alloc (.cells #[.int .i64 0, .slice none 0 0, .int .i64 0] 51)) = w0 at Kb Kp Kr B ⊢
    clear hw0 hG
    obtain ⟨bbc0, bbc1⟩ := twob Kb.out
    obtain ⟨bpc0, bpc1⟩ := twob Kp.out
    obtain ⟨brc0, brc1, brc2⟩ := three Kr.out
    go_wp2_with fail
    refine (C.out _ (HP.out.mono B.out)).mono ?_
    rintro e w1 ⟨rfl, hb⟩
    replace Kb := Lib.hid (Kb.out.below hb Kb.out.lt)
    replace Kp := Lib.hid (Kp.out.below hb Kp.out.lt)
    replace Kr := Lib.hid (Kr.out.below hb Kr.out.lt)
    replace B := Lib.hid (B.out.trans (hb.mono B.out.size))
    clear bbc0 bbc1 bpc0 bpc1 brc0 brc1 brc2
    clear hb
    obtain ⟨bbc0, bbc1⟩ := twob Kb.out
    obtain ⟨bpc0, bpc1⟩ := twob Kp.out
    obtain ⟨brc0, brc1, brc2⟩ := three Kr.out
    clear bbc0 bbc1 bpc0 bpc1 brc0 brc1 brc2
    obtain ⟨bbc0, bbc1⟩ := twob Kb.out
    obtain ⟨bpc0, bpc1⟩ := twob Kp.out
    obtain ⟨brc0, brc1, brc2⟩ := three Kr.out
    have fzr := fun q => Kr.out.frozen q
    go_wp2
    have K9 := Lib.hid (Kr.out.set3 (.int .i64 0) (.slice none 0 0) (.int .i64 1))
    have B9 := (((B.out.setCell (p := ⟨G + 1 + 1, 0, none⟩) (show w.heap.size ≤ G + 1 + 1 by have := HG.out; omega) (.int .i64 0)).setCell (p := ⟨G + 1 + 1, 1, none⟩) (show w.heap.size ≤ G + 1 + 1 by have := HG.out; omega) (.slice none 0 0)).setCell (p := ⟨G + 1 + 1, 2, none⟩) (show w.heap.size ≤ G + 1 + 1 by have := HG.out; omega) (.int .i64 1))
    simp only [set3] at K9
    generalize hw2 : (((w1.setCell ⟨G + 1 + 1, 0, none⟩ (.int .i64 0)).setCell ⟨G + 1 + 1, 1, none⟩ (.slice none 0 0)).setCell ⟨G + 1 + 1, 2, none⟩ (.int .i64 1)) = w9 at K9 B9 ⊢
    clear bbc0 bbc1 bpc0 bpc1 brc0 brc1 brc2 fzr
    clear hw2
    obtain ⟨d0, d1, d2⟩ := three K9.out
    refine bodyPost_ret (by simp [results, Try.results33, go_sem, d0, d1, d2]; try rfl) rfl ?_
    exact ⟨rfl, B9⟩
set_option maxRecDepth 100000 in
set_option maxHeartbeats 4000000 in
theorem dropref_ok (len : Int) (a : Option Addr) (c : Nat) (l : List Rw) (lo hi : Int) (w : World) (hp : RwA w a l) (ok : OkP len l) (p1 : perB lo hi = true) (hwn : ∀ x ∈ l, winOk x.1) :
    Calls Try.prog 33 #[.agg #[.int .i64 len, .slice a l.length c], per lo hi] w fun e w' => (∃ a' c', e = .returned (.agg #[.int .i64 len, .slice a' (forgetL l len lo).length c', .int .i64 0]) ∧ RwA w' a' (forgetL l len lo)) ∧ Below w.heap.size w w' := by
  have HP := Lib.hid hp
  have hl : 1 ≤ len ∧ len ≤ 3600000 := ok.head.1
  have hm : l.length ≤ 10000 := ok.head.2
  have C := Lib.hid (fun (X : World) (h : RwA X a l) => rvalidp_yes ok a c X h)
  have PV := Lib.hid (fun X : World => pvalidref_any lo hi X)
  obtain ⟨q1, q2, q3⟩ := perB_yes p1
  have OV := Lib.hid (fun (x : Int) (h : winOk x) (X : World) => overref_any x len lo hi X h hl ⟨q1, by omega⟩)
  rw [p1] at PV
  obtain ⟨N, hN⟩ : ∃ N, l.length = N := ⟨_, rfl⟩
  have HE := Lib.hid hN
  simp only [hN] at C
  have HS := Lib.hid (fun (k : Nat) (hk : k < N) => filter_step (fun x => ! decide ((x.1 + 1) * len ≤ lo)) l k r0 (by rw [hN]; exact hk))
  have HM := Lib.hid (fun (k : Nat) (hk : k < N) => hwn (l.getD k r0) (by rw [getEl (by rw [hN]; exact hk)]; exact List.getElem_mem _))
  have FE := Lib.hid (show (l.take N).filter (fun x => ! decide ((x.1 + 1) * len ≤ lo)) = forgetL l len lo by rw [← hN, List.take_length]; rfl)
  have FL := Lib.hid (fun (k : Nat) => show ((l.take k).filter (fun x => ! decide ((x.1 + 1) * len ≤ lo))).length ≤ 10000 from Nat.le_trans (List.length_filter_le _ _) (by rw [List.length_take]; omega))
  rw [hN]
  rw [hN] at hm
  obtain ⟨L, hL⟩ : ∃ z, forgetL l len lo = z := ⟨_, rfl⟩
  obtain ⟨n6, hn6⟩ : ∃ n, L.length = n := ⟨_, rfl⟩
  rw [hL] at FE
  rw [hL, hn6]
  have HN6 := Lib.hid hn6
  clear hp ok p1 hwn q1 q2 q3 hl hN hL hn6
  go_enter Try.func33, Try.ntmps33
  obtain ⟨G, hG⟩ : ∃ G, w.heap.size = G := ⟨_, rfl⟩
  have HG := Lib.hid hG
  have Kb := Lib.hid (show Blk (((w.alloc (.cells #[.int .i64 len, .slice a N c] 45)).alloc (.cells #[.int .i64 lo, .int .i64 hi] 26)).alloc (.cells #[.int .i64 0, .slice none 0 0, .int .i64 0] 51)) (G) 45 #[.int .i64 len, .slice a N c] from ((Blk.new' _ _ _ _ hG rfl).alloc _).alloc _)
  have Kp := Lib.hid (show Blk (((w.alloc (.cells #[.int .i64 len, .slice a N c] 45)).alloc (.cells #[.int .i64 lo, .int .i64 hi] 26)).alloc (.cells #[.int .i64 0, .slice none 0 0, .int .i64 0] 51)) (G + 1) 26 #[.int .i64 lo, .int .i64 hi] from (Blk.new' _ _ _ _ (by rw [World.size_alloc, hG]) rfl).alloc _)
  have Kr := Lib.hid (show Blk (((w.alloc (.cells #[.int .i64 len, .slice a N c] 45)).alloc (.cells #[.int .i64 lo, .int .i64 hi] 26)).alloc (.cells #[.int .i64 0, .slice none 0 0, .int .i64 0] 51)) (G + 1 + 1) 51 #[.int .i64 0, .slice none 0 0, .int .i64 0] from Blk.new' _ _ _ _ (by rw [World.size_alloc, World.size_alloc, hG]) rfl)
  have B := Lib.hid (show Below w.heap.size w (((w.alloc (.cells #[.int .i64 len, .slice a N c] 45)).alloc (.cells #[.int .i64 lo, .int .i64 hi] 26)).alloc (.cells #[.int .i64 0, .slice none 0 0, .int .i64 0] 51)) by (repeat' (first | (with_reducible exact Below.refl _ _) | (with_reducible assumption) | (with_reducible refine Below.alloc ?_ ?_ _) | (with_reducible refine Below.drew ?_) | (with_reducible refine below_dn ?_) | (with_reducible refine Below.setCell ?_ ?_ _) | (with_reducible exact Nat.le_refl _) | omega | (simp only [World.size_alloc, World.size_setCell, World.size_drew]; omega) | (simp; omega) | (simp; done))))
  go_upto_region 1 with (fail)
  try rw [hG]
  generalize hw0 : (((w.alloc (.cells #[.int .i64 len, .slice a N c] 45)).alloc (.cells #[.int .i64 lo, .int .i64 hi] 26)).alloc (.cells #[.int .i64 0, .slice none 0 0, .int .i64 0] 51)) = w0 at Kb Kp Kr B ⊢
  clear hw0 hG
  obtain ⟨bbc0, bbc1⟩ := twob Kb.out
  obtain ⟨bpc0, bpc1⟩ := twob Kp.out
  obtain ⟨brc0, brc1, brc2⟩ := three Kr.out
  go_wp2_with fail
  refine (C.out _ (HP.out.mono B.out)).mono ?_
  rintro e w1 ⟨rfl, hb⟩
  replace Kb := Lib.hid (Kb.out.below hb Kb.out.lt)
  replace Kp := Lib.hid (Kp.out.below hb Kp.out.lt)
  replace Kr := Lib.hid (Kr.out.below hb Kr.out.lt)
  replace B := Lib.hid (B.out.trans (hb.mono B.out.size))
  clear bbc0 bbc1 bpc0 bpc1 brc0 brc1 brc2
  clear hb
  obtain ⟨bbc0, bbc1⟩ := twob Kb.out
  obtain ⟨bpc0, bpc1⟩ := twob Kp.out
  obtain ⟨brc0, brc1, brc2⟩ := three Kr.out
  go_wp2_with fail
  refine (PV.out _).mono ?_
  rintro e w2 ⟨rfl, hb⟩
  replace Kb := Lib.hid (Kb.out.below hb Kb.out.lt)
  replace Kp := Lib.hid (Kp.out.below hb Kp.out.lt)
  replace Kr := Lib.hid (Kr.out.below hb Kr.out.lt)
  replace B := Lib.hid (B.out.trans (hb.mono B.out.size))
  clear bbc0 bbc1 bpc0 bpc1 brc0 brc1 brc2
  clear hb
  obtain ⟨bbc0, bbc1⟩ := twob Kb.out
  obtain ⟨bpc0, bpc1⟩ := twob Kp.out
  obtain ⟨brc0, brc1, brc2⟩ := three Kr.out
  obtain ⟨Z, hZ⟩ : ∃ Z, w2.heap.size = Z := ⟨_, rfl⟩
  have HZ := Lib.hid (show G + 1 + 1 < Z from by have := Kr.out.lt; omega)
  have hZ0 : Z ≤ w2.heap.size := by omega
  clear hZ C PV
  go_wp2
  clear bbc0 bbc1 bpc0 bpc1 brc0 brc1 brc2
  go_loopw [5, 6] (fun u5 u6 wr => ∃ k : Nat, k ≤ N ∧ u6 = .int .i64 k ∧ Hid (Co.OwnA wr Z u5 ((l.take k).filter (fun x => ! decide ((x.1 + 1) * len ≤ lo)))) ∧ Z ≤ wr.heap.size ∧ Hid (Blk wr (G) 45 #[.int .i64 len, .slice a N c]) ∧ Hid (Blk wr (G + 1) 26 #[.int .i64 lo, .int .i64 hi]) ∧ Hid (Blk wr (G + 1 + 1) 51 #[.int .i64 0, .slice none 0 0, .int .i64 0]) ∧ Hid (Below w.heap.size w wr)) (fun _ u6 _ => (N - intOf u6).toNat)
  case atStart => exact ⟨0, by omega, rfl, Lib.hid (by simpa using OwnR.nil _ _ _ _ _), hZ0, Kb, Kp, Kr, B⟩
  case round =>
    clear Kb Kp Kr B hZ0
    obtain ⟨k, hk, rfl, ho, hzr, Kb, Kp, Kr, B⟩ := hrel
    obtain ⟨bbc0, bbc1⟩ := twob Kb.out
    obtain ⟨bpc0, bpc1⟩ := twob Kp.out
    obtain ⟨brc0, brc1, brc2⟩ := three Kr.out
    by_cases hlt : k < N
    · have t0 : decide ((k : Int) < (N : Int)) = true := decide_eq_true (by omega)
      have wk : IntKind.i64.wrap ((k : Int) + 1) = (k : Int) + 1 := by rw [IntKind.wrap_i64]; omega
      have HP0 := Lib.hid (HP.out.mono B.out)
      obtain ⟨b, off, rfl, q0, q1, q2, q3⟩ := RwA.at_ HP0.out (k := k) (by rw [HE.out]; exact hlt)
      have HW := Lib.hid (HM.out k hlt)
      obtain ⟨y, hy⟩ : ∃ y, l.getD k r0 = y := ⟨_, rfl⟩
      have HY := Lib.hid hy
      rw [hy] at q0 q1 q2 q3 HW
      clear hy
      obtain ⟨x1, x2, x3, x4⟩ := y
      simp only at q0 q1 q2 q3 HW
      have k0 : (0 : Int) ≤ (k : Int) := by omega
      have kN : (k : Int) < (N : Int) := by omega
      clear bbc0 bbc1 bpc0 bpc1 brc0 brc1 brc2
      by_cases hg : (x1 + 1) * len ≤ lo
      · have t1 : decide ((x1 + 1) * len ≤ lo) = true := by simpa using hg
        have hs := HS.out k hlt
        simp only [HY.out, t1, Bool.not_true, Bool.false_eq_true, if_false, List.append_nil] at hs
        have HST := Lib.hid hs
        have O := Lib.hid (fun X : World => OV.out x1 HW.out X)
        simp only [t1] at O
        clear hg t1 hs
        have QO := Lib.hid (fun (d : Nat) (os : Array Obj) => O.out (grow (redrawn wr d) os))
        obtain ⟨bbc0, bbc1⟩ := twob Kb.out
        obtain ⟨bpc0, bpc1⟩ := twob Kp.out
        obtain ⟨brc0, brc1, brc2⟩ := three Kr.out
        have gc := grow_cell3
        have zzb := Kb.out.lt
        have zzp := Kp.out.lt
        have zzr := Kr.out.lt
        have zq := RwA.blk_lt HP0.out (by rw [HE.out]; exact hlt) rfl
        go_wp2_with fail
        refine wp_region_quiet_below (by kernel_rfl) (by kernel_rfl) ?_
        repeat (go_big_quiet_step (first | (with_reducible exact Calls.regrown_of (QO.out _ _))))
        refine wpQuiet_nil ?_
        intro w6 hw'
        obtain ⟨⟨dq, osq⟩, hw''⟩ := hw'
        have hb := below_of_grow3 hw''
        clear hw'' gc zzb zzp zzr zq QO O q0 q1 q2 q3
        replace ho := Lib.hid (OwnR.below ho.out hb)
        have hz6 : Z ≤ w6.heap.size := Nat.le_trans hzr hb.size
        replace HP0 := Lib.hid (HP0.out.mono hb)
        replace Kb := Lib.hid (Kb.out.below hb Kb.out.lt)
        replace Kp := Lib.hid (Kp.out.below hb Kp.out.lt)
        replace Kr := Lib.hid (Kr.out.below hb Kr.out.lt)
        replace B := Lib.hid (B.out.trans (hb.mono B.out.size))
        clear hb hzr
        clear bbc0 bbc1 bpc0 bpc1 brc0 brc1 brc2
        obtain ⟨bbc0, bbc1⟩ := twob Kb.out
        obtain ⟨bpc0, bpc1⟩ := twob Kp.out
        obtain ⟨brc0, brc1, brc2⟩ := three Kr.out
        go_wp2
        go_roundw
        case rel => exact ⟨k + 1, by omega, by go_num, by rw [HST.out]; exact ho, hz6, Kb, Kp, Kr, B⟩
        case measure => simp [intOf]; omega
      · have t1 : decide ((x1 + 1) * len ≤ lo) = false := by simpa using hg
        have hs := HS.out k hlt
        simp only [HY.out, t1, Bool.not_false, if_true] at hs
        have HST := Lib.hid hs
        have O := Lib.hid (fun X : World => OV.out x1 HW.out X)
        simp only [t1] at O
        clear hg t1 hs
        have QO := Lib.hid (fun (d : Nat) (os : Array Obj) => O.out (grow (redrawn wr d) os))
        obtain ⟨bbc0, bbc1⟩ := twob Kb.out
        obtain ⟨bpc0, bpc1⟩ := twob Kp.out
        obtain ⟨brc0, brc1, brc2⟩ := three Kr.out
        have gc := grow_cell3
        have zzb := Kb.out.lt
        have zzp := Kp.out.lt
        have zzr := Kr.out.lt
        have zq := RwA.blk_lt HP0.out (by rw [HE.out]; exact hlt) rfl
        go_wp2_with fail
        refine wp_region_quiet_below (by kernel_rfl) (by kernel_rfl) ?_
        repeat (go_big_quiet_step (first | (with_reducible exact Calls.regrown_of (QO.out _ _))))
        refine wpQuiet_nil ?_
        intro w6 hw'
        obtain ⟨⟨dq, osq⟩, hw''⟩ := hw'
        have hb := below_of_grow3 hw''
        clear hw'' gc zzb zzp zzr zq QO O q0 q1 q2 q3
        replace ho := Lib.hid (OwnR.below ho.out hb)
        have hz6 : Z ≤ w6.heap.size := Nat.le_trans hzr hb.size
        replace HP0 := Lib.hid (HP0.out.mono hb)
        replace Kb := Lib.hid (Kb.out.below hb Kb.out.lt)
        replace Kp := Lib.hid (Kp.out.below hb Kp.out.lt)
        replace Kr := Lib.hid (Kr.out.below hb Kr.out.lt)
        replace B := Lib.hid (B.out.trans (hb.mono B.out.size))
        clear hb hzr
        clear bbc0 bbc1 bpc0 bpc1 brc0 brc1 brc2
        obtain ⟨bbc0, bbc1⟩ := twob Kb.out
        obtain ⟨bpc0, bpc1⟩ := twob Kp.out
        obtain ⟨brc0, brc1, brc2⟩ := three Kr.out
        obtain ⟨e1, e2, e3, e4⟩ := RwA.cells_ HP0.out (k := k) (by rw [HE.out]; exact hlt) rfl
        rw [HY.out] at e1 e2 e3 e4
        simp only at e1 e2 e3 e4
        obtain ⟨b1, n1, c1, w7, hr1, ho1, hb1, -⟩ := app_oneC w6 Z u5 _ x1 x2 x3 x4 ho.out (by have := FL.out k; omega) hz6
        have HR1 := Lib.hid hr1
        have z7 : Z ≤ w7.heap.size := Nat.le_trans hz6 hb1.size
        have Kb7 := Lib.hid (show Blk w7 (G) 45 _ from (hb1.block (G) (by have := HZ.out; omega)).trans Kb.out)
        have Kp7 := Lib.hid (show Blk w7 (G + 1) 26 _ from (hb1.block (G + 1) (by have := HZ.out; omega)).trans Kp.out)
        have Kr7 := Lib.hid (show Blk w7 (G + 1 + 1) 51 _ from (hb1.block (G + 1 + 1) (by have := HZ.out; omega)).trans Kr.out)
        have B7 := Lib.hid (B.out.trans (hb1.mono (by have := HZ.out; have := HG.out; omega)))
        have OF := Lib.hid (show Co.OwnA w7 Z (.slice b1 n1 c1) ((l.take (k + 1)).filter (fun x => ! decide ((x.1 + 1) * len ≤ lo))) by rw [HST.out]; exact ho1)
        clear hr1 ho1 hb1 ho
        go_wp2_with (at_builtin; refine wpList_app_run rfl _ _ 43 43 rfl _ _ _ w7 rfl rfl HR1.out ?_)
        go_roundw
        case rel => exact ⟨k + 1, by omega, by go_num, OF, z7, Kb7, Kp7, Kr7, B7⟩
        case measure => simp [intOf]; omega
    · have hkN : N = k := by omega
      subst hkN
      clear hlt hk
      have ho2 := ho.out
      rw [FE.out] at ho2
      obtain ⟨a6, c6, e6, -, -⟩ := OwnR.view encR_len ho2
      rw [HN6.out] at e6
      subst e6
      have O6 := Lib.hid ho2
      clear ho2 ho
      replace O6 := Lib.hid (OwnR.far O6.out (p := ⟨G, 1, none⟩) (show G < Z by have := HZ.out; omega) (.slice a6 n6 c6))
      obtain ⟨bbc0, bbc1⟩ := twob Kb.out
      obtain ⟨bpc0, bpc1⟩ := twob Kp.out
      obtain ⟨brc0, brc1, brc2⟩ := three Kr.out
      have fzb := fun q => Kb.out.frozen q
      replace Kb := Lib.hid (show Blk (wr.setCell ⟨G, 1, none⟩ (.slice a6 n6 c6)) (G) 45 #[.int .i64 len, .slice a6 n6 c6] from Kb.out.set_ 1 _)
      replace Kp := Lib.hid (Kp.out.far (p := ⟨G, 1, none⟩) (by simp; try omega) (.slice a6 n6 c6))
      replace Kr := Lib.hid (Kr.out.far (p := ⟨G, 1, none⟩) (by simp; try omega) (.slice a6 n6 c6))
      replace B := Lib.hid (B.out.setCell (p := ⟨G, 1, none⟩) (show w.heap.size ≤ G by have := HG.out; omega) (.slice a6 n6 c6))
      go_upto_region 10 with (fail)
      generalize hw7 : (wr.setCell ⟨G, 1, none⟩ (.slice a6 n6 c6)) = w7 at O6 Kb Kp Kr B ⊢
      clear bbc0 bbc1 bpc0 bpc1 brc0 brc1 brc2 fzb
      clear hw7
      obtain ⟨bbc0, bbc1⟩ := twob Kb.out
      obtain ⟨bpc0, bpc1⟩ := twob Kp.out
      obtain ⟨brc0, brc1, brc2⟩ := three Kr.out
      have fzr := fun q => Kr.out.frozen q
      go_wp2
      have K9 := Lib.hid (Kr.out.set3 (.int .i64 len) (.slice a6 n6 c6) (.int .i64 0))
      simp only [set3] at K9
      have B9 := (((B.out.setCell (p := ⟨G + 1 + 1, 0, none⟩) (show w.heap.size ≤ G + 1 + 1 by have := HG.out; omega) (.int .i64 len)).setCell (p := ⟨G + 1 + 1, 1, none⟩) (show w.heap.size ≤ G + 1 + 1 by have := HG.out; omega) (.slice a6 n6 c6)).setCell (p := ⟨G + 1 + 1, 2, none⟩) (show w.heap.size ≤ G + 1 + 1 by have := HG.out; omega) (.int .i64 0))
      have O9 := (OwnR.far (OwnR.far (OwnR.far O6.out (p := ⟨G + 1 + 1, 0, none⟩) (show G + 1 + 1 < Z by have := HZ.out; omega) (.int .i64 len)) (p := ⟨G + 1 + 1, 1, none⟩) (show G + 1 + 1 < Z by have := HZ.out; omega) (.slice a6 n6 c6)) (p := ⟨G + 1 + 1, 2, none⟩) (show G + 1 + 1 < Z by have := HZ.out; omega) (.int .i64 0))
      generalize hw2 : (((w7.setCell ⟨G + 1 + 1, 0, none⟩ (.int .i64 len)).setCell ⟨G + 1 + 1, 1, none⟩ (.slice a6 n6 c6)).setCell ⟨G + 1 + 1, 2, none⟩ (.int .i64 0)) = w9 at K9 B9 O9 ⊢
      clear bbc0 bbc1 bpc0 bpc1 brc0 brc1 brc2 fzr
      clear hw2
      obtain ⟨d0, d1, d2⟩ := three K9.out
      obtain ⟨av, cv, ev, -, hv⟩ := OwnR.view encR_len O9
      injection ev with ev1 ev2 ev3
      have HV := Lib.hid hv
      clear hv ev2 ev3
      refine bodyPost_ret (by simp [results, Try.results33, go_sem, d0, d1, d2]; try rfl) rfl ?_
      exact ⟨⟨a6, c6, rfl, by rw [ev1]; exact HV.out⟩, B9⟩
end
section
open Go.RowKit Go.Sort
set_option maxRecDepth 100000 in
set_option maxHeartbeats 4000000 in
theorem set_any (len : Int) (a : Option Addr) (c : Nat) (l : List Rw) (x : Rw) (w : World) (hp : RwA w a l) (ord : OrdW l) (hm : l.length ≤ 10000) :
    Calls Try.prog 67 #[.agg #[.int .i64 len, .slice a l.length c], .agg (encR x).toArray] w fun e w' => (∃ a' c', e = .returned (.agg #[.int .i64 len, .slice a' (putL l (posC (cW x.1) l) (hasC (cW x.1) l) x).length c']) ∧ RwA w' a' (putL l (posC (cW x.1) l) (hasC (cW x.1) l) x) ∧ ∀ p, a' = some p → w.heap.size ≤ p.block) ∧ Below w.heap.size w w' := by
  have HP := Lib.hid hp
  obtain ⟨x1, x2, x3, x4⟩ := x
  simp only at *
  have hle := posC_le (cW x1) l
  have PB := Lib.hid (show ∀ j, j < posC (cW x1) l → (l.getD j r0).1 < x1 from fun j hj => cW_neg.1 (posC_below _ l j hj))
  have PA := Lib.hid (show posC (cW x1) l < l.length → ¬ (l.getD (posC (cW x1) l) r0).1 < x1 from fun hl q => posC_at _ l hl (cW_neg.2 q))
  have PG := Lib.hid (show ∀ j, posC (cW x1) l < j → j < l.length → x1 < (l.getD j r0).1 from fun j hj hl => by
    have h1 := posC_at (cW x1) l (by omega)
    rw [cW_neg] at h1
    have h2 := ord.lt hj hl
    omega)
  have HH := Lib.hid (show posC (cW x1) l < l.length → (l.getD (posC (cW x1) l) r0).1 = x1 → hasC (cW x1) l = true from fun h1 h2 => (hasC_iff _ _).2 ⟨h1, cW_zero.2 h2⟩)
  have HN := Lib.hid (show x1 < (l.getD (posC (cW x1) l) r0).1 → hasC (cW x1) l = false from fun q => by
    cases e : hasC (cW x1) l
    · rfl
    · have := cW_zero.1 ((hasC_iff _ _).1 e).2; omega)
  have HL := Lib.hid (show posC (cW x1) l = l.length → hasC (cW x1) l = false from fun q => by
    cases e : hasC (cW x1) l
    · rfl
    · have := ((hasC_iff _ _).1 e).1; omega)
  obtain ⟨p, hp9⟩ : ∃ p, posC (cW x1) l = p := ⟨_, rfl⟩
  obtain ⟨h, hh9⟩ : ∃ h, hasC (cW x1) l = h := ⟨_, rfl⟩
  rw [hp9] at hle PB PA PG HH HN HL
  rw [hh9] at HH HN HL
  rw [hp9, hh9]
  obtain ⟨N, hN⟩ : ∃ N, l.length = N := ⟨_, rfl⟩
  have HE := Lib.hid hN
  simp only [encR]
  rw [hN] at hm hle ⊢
  have HEND := Lib.hid (show p < N → putK l p h (x1, x2, x3, x4) N = putL l p h (x1, x2, x3, x4) from fun q => by rw [← HE.out]; exact putK_end l p h _ (by rw [HE.out]; exact q))
  have HLST := Lib.hid (show p = N → putK l p h (x1, x2, x3, x4) N ++ [(x1, x2, x3, x4)] = putL l p h (x1, x2, x3, x4) from fun q => by rw [q, ← HE.out]; exact putK_last l h _ (HL.out (by rw [HE.out]; exact q)))
  clear hp ord hN hp9 hh9
  go_enter Try.func67, Try.ntmps67
  obtain ⟨G, hG⟩ : ∃ G, w.heap.size = G := ⟨_, rfl⟩
  have HG := Lib.hid hG
  have K1 := Lib.hid (show Blk (((w.alloc (.cells #[.int .i64 len, .slice a N c] 45)).alloc (.cells #[.int .i64 x1, .int .i64 x2, .int .i64 x3, .int .i64 x4] 89)).alloc (.cells #[.int .i64 0, .slice none 0 0] 45)) G 45 #[.int .i64 len, .slice a N c] from ((Blk.new' w _ _ _ hG rfl).alloc _).alloc _)
  have K2 := Lib.hid (show Blk (((w.alloc (.cells #[.int .i64 len, .slice a N c] 45)).alloc (.cells #[.int .i64 x1, .int .i64 x2, .int .i64 x3, .int .i64 x4] 89)).alloc (.cells #[.int .i64 0, .slice none 0 0] 45)) (G + 1) 89 #[.int .i64 x1, .int .i64 x2, .int .i64 x3, .int .i64 x4] from (Blk.new' _ _ _ _ (by rw [World.size_alloc, hG]) rfl).alloc _)
  have K3 := Lib.hid (show Blk (((w.alloc (.cells #[.int .i64 len, .slice a N c] 45)).alloc (.cells #[.int .i64 x1, .int .i64 x2, .int .i64 x3, .int .i64 x4] 89)).alloc (.cells #[.int .i64 0, .slice none 0 0] 45)) (G + 1 + 1) 45 #[.int .i64 0, .slice none 0 0] from Blk.new' _ _ _ _ (by rw [World.size_alloc, World.size_alloc, hG]) rfl)
  have B := Lib.hid (show Below w.heap.size w (((w.alloc (.cells #[.int .i64 len, .slice a N c] 45)).alloc (.cells #[.int .i64 x1, .int .i64 x2, .int .i64 x3, .int .i64 x4] 89)).alloc (.cells #[.int .i64 0, .slice none 0 0] 45)) by (repeat' (first | (with_reducible exact Below.refl _ _) | (with_reducible assumption) | (with_reducible refine Below.alloc ?_ ?_ _) | (with_reducible refine Below.drew ?_) | (with_reducible refine below_dn ?_) | (with_reducible refine Below.setCell ?_ ?_ _) | (with_reducible exact Nat.le_refl _) | omega | (simp only [World.size_alloc, World.size_setCell, World.size_drew]; omega) | (simp; omega) | (simp; done))))
  go_upto_region 1 with (fail)
  try rw [hG]
  generalize hw0 : (((w.alloc (.cells #[.int .i64 len, .slice a N c] 45)).alloc (.cells #[.int .i64 x1, .int .i64 x2, .int .i64 x3, .int .i64 x4] 89)).alloc (.cells #[.int .i64 0, .slice none 0 0] 45)) = w0 at K1 K2 K3 B ⊢
  clear hw0 hG
  obtain ⟨Z, hZ⟩ : ∃ Z, w0.heap.size = Z := ⟨_, rfl⟩
  have hGZ : G + 1 + 1 < Z := by have := K3.out.lt; omega
  have HZ := Lib.hid (show G + 1 + 1 < Z from hGZ)
  have hZ0 : Z ≤ w0.heap.size := by omega
  clear hZ
  go_wp2
  go_loopw [5, 6, 7] (fun u5 u6 u7 wr => ∃ k : Nat, k ≤ N ∧ u7 = .int .i64 k ∧ u6 = .bool (decide (p < k)) ∧ Hid (Co.OwnA wr Z u5 (putK l p h (x1, x2, x3, x4) k)) ∧ Z ≤ wr.heap.size ∧ Hid (Blk wr G 45 #[.int .i64 len, .slice a N c]) ∧ Hid (Blk wr (G + 1) 89 #[.int .i64 x1, .int .i64 x2, .int .i64 x3, .int .i64 x4]) ∧ Hid (Blk wr (G + 1 + 1) 45 #[.int .i64 0, .slice none 0 0]) ∧ Hid (Below w.heap.size w wr)) (fun _ _ u7 _ => (N - intOf u7).toNat)
  case atStart => exact ⟨0, by omega, rfl, by simp, Lib.hid (by rw [putK_zero]; exact OwnR.nil _ _ _ _ _), hZ0, K1, K2, K3, B⟩
  case round =>
    clear K1 K2 K3 B hZ0
    obtain ⟨k, hk, rfl, rfl, ho, hz, K1, K2, K3, B⟩ := hrel
    by_cases hlt : k < N
    · obtain ⟨d0, d1⟩ := twob K1.out
      obtain ⟨m0, m1, m2, m3⟩ := four K2.out
      have t0 : decide ((k : Int) < (N : Int)) = true := decide_eq_true (by omega)
      have wk : IntKind.i64.wrap ((k : Int) + 1) = (k : Int) + 1 := by rw [IntKind.wrap_i64]; omega
      have HR := Lib.hid (HP.out.mono B.out)
      obtain ⟨b, off, rfl, -, -, -, -⟩ := RwA.at_ HR.out (k := k) (by rw [HE.out]; exact hlt)
      have LN := Lib.hid (show (putK l p h (x1, x2, x3, x4) k).length ≤ 10001 by have := putK_len l p h (x1, x2, x3, x4) k (by rw [HE.out]; exact hk); omega)
      obtain ⟨y, hy⟩ : ∃ y, l.getD k r0 = y := ⟨_, rfl⟩
      have HY := Lib.hid hy
      clear hy
      obtain ⟨y1, y2, y3, y4⟩ := y
      obtain ⟨e0, e1, e2, e3⟩ := RwA.cells_ HR.out (k := k) (by rw [HE.out]; exact hlt) rfl
      rw [HY.out] at e0 e1 e2 e3
      simp only at e0 e1 e2 e3
      have k0 : (0 : Int) ≤ (k : Int) := by omega
      have kN : (k : Int) < (N : Int) := by omega
      rcases Nat.lt_trichotomy k p with hkp | hkp | hkp
      · have hc := PB.out k hkp
        rw [HY.out] at hc
        simp only at hc
        have e9 : decide (p < k) = false := decide_eq_false (by omega)
        have HST := Lib.hid (by have := putK_below l p h (x1, x2, x3, x4) k hkp (by rw [HE.out]; exact hlt); rw [HY.out] at this; exact this)
        have t1 : decide (x1 ≤ y1) = false := decide_eq_false (by omega)
        have t4 : (y1 != x1) = true := by simp; omega
        clear hc
        have gc := grow_cell3
        have zz1 := K1.out.lt
        have zz2 := K2.out.lt
        have zq := block_lt_of_cell e0
        go_wp2_with fail
        refine wp_region_quiet_below (by kernel_rfl) (by kernel_rfl) ?_
        repeat (go_big_quiet_step (fail))
        refine wpQuiet_nil ?_
        intro w7 hw'
        obtain ⟨⟨dq, osq⟩, hw''⟩ := hw'
        have hb := below_of_grow3 hw''
        clear hw'' gc zz1 zz2 zq
        replace ho := Lib.hid (OwnR.below ho.out hb)
        replace hz := Nat.le_trans hz hb.size
        replace HR := Lib.hid (HR.out.mono hb)
        replace K1 := Lib.hid (K1.out.below hb K1.out.lt)
        replace K2 := Lib.hid (K2.out.below hb K2.out.lt)
        replace K3 := Lib.hid (K3.out.below hb K3.out.lt)
        replace B := Lib.hid (B.out.trans (hb.mono B.out.size))
        clear d0 d1 m0 m1 m2 m3 e0 e1 e2 e3
        clear hb
        obtain ⟨d0, d1⟩ := twob K1.out
        obtain ⟨m0, m1, m2, m3⟩ := four K2.out
        obtain ⟨e0, e1, e2, e3⟩ := RwA.cells_ HR.out (k := k) (by rw [HE.out]; exact hlt) rfl
        rw [HY.out] at e0 e1 e2 e3
        simp only at e0 e1 e2 e3
        have gc := grow_cell3
        have zz1 := K1.out.lt
        have zz2 := K2.out.lt
        have zq := block_lt_of_cell e0
        go_wp2_with fail
        refine wp_region_quiet_below (by kernel_rfl) (by kernel_rfl) ?_
        repeat (go_big_quiet_step (fail))
        refine wpQuiet_nil ?_
        intro w8 hw'
        obtain ⟨⟨dq, osq⟩, hw''⟩ := hw'
        have hb := below_of_grow3 hw''
        clear hw'' gc zz1 zz2 zq
        replace ho := Lib.hid (OwnR.below ho.out hb)
        replace hz := Nat.le_trans hz hb.size
        replace HR := Lib.hid (HR.out.mono hb)
        replace K1 := Lib.hid (K1.out.below hb K1.out.lt)
        replace K2 := Lib.hid (K2.out.below hb K2.out.lt)
        replace K3 := Lib.hid (K3.out.below hb K3.out.lt)
        replace B := Lib.hid (B.out.trans (hb.mono B.out.size))
        clear d0 d1 m0 m1 m2 m3 e0 e1 e2 e3
        clear hb
        obtain ⟨d0, d1⟩ := twob K1.out
        obtain ⟨m0, m1, m2, m3⟩ := four K2.out
        obtain ⟨e0, e1, e2, e3⟩ := RwA.cells_ HR.out (k := k) (by rw [HE.out]; exact hlt) rfl
        rw [HY.out] at e0 e1 e2 e3
        simp only at e0 e1 e2 e3
        obtain ⟨b9, n9, c9, w9, hr, hq, hb, -⟩ := app_oneC w8 Z u5 _ y1 y2 y3 y4 ho.out (by first | (have := LN.out; omega) | (have := LN.out; simp; omega)) hz
        have HA9 := Lib.hid hr
        have O9 := Lib.hid hq
        replace hz := Nat.le_trans hz hb.size
        replace K1 := Lib.hid ((hb.block (G) (by have := HZ.out; omega)).trans K1.out)
        replace K2 := Lib.hid ((hb.block (G + 1) (by have := HZ.out; omega)).trans K2.out)
        replace K3 := Lib.hid ((hb.block (G + 1 + 1) (by have := HZ.out; omega)).trans K3.out)
        replace HR := Lib.hid (HP.out.mono (B.out.trans (hb.mono (by have := HZ.out; have := HG.out; omega))))
        replace B := Lib.hid (B.out.trans (hb.mono (by have := HZ.out; have := HG.out; omega)))
        clear hr hq hb ho
        replace K1 := Lib.hid (show Blk w9 (G) 45 _ from K1.out)
        replace K2 := Lib.hid (show Blk w9 (G + 1) 89 #[.int .i64 x1, .int .i64 x2, .int .i64 x3, .int .i64 x4] from K2.out)
        replace K3 := Lib.hid (show Blk w9 (G + 1 + 1) 45 #[.int .i64 0, .slice none 0 0] from K3.out)
        go_wp2_with (at_builtin; refine wpList_app_run rfl _ _ 43 43 rfl _ _ _ w9 rfl rfl HA9.out ?_)
        clear d0 d1 m0 m1 m2 m3 e0 e1 e2 e3
        have OF := Lib.hid (show Co.OwnA w9 Z (.slice b9 n9 c9) (putK l p h (x1, x2, x3, x4) (k + 1)) by rw [HST.out]; exact O9.out)
        go_roundw
        case rel => exact ⟨k + 1, by omega, by go_num, by rw [decide_eq_false (by omega)], OF, hz, K1, K2, K3, B⟩
        case measure => simp [intOf]; omega
      · have hc := PA.out (by rw [← hkp, HE.out]; exact hlt)
        rw [← hkp, HY.out] at hc
        simp only at hc
        have t1 : decide (x1 ≤ y1) = true := decide_eq_true (by omega)
        by_cases q1 : x1 < y1
        · have hh2 := HN.out (by rw [← hkp, HY.out]; exact q1)
          have e9 : decide (p < k) = false := decide_eq_false (by omega)
          obtain rfl : h = false := hh2
          have HST := Lib.hid (show putK l p false (x1, x2, x3, x4) (k + 1) = putK l p false (x1, x2, x3, x4) k ++ [(x1, x2, x3, x4)] ++ [(y1, y2, y3, y4)] from by have := putK_not l p (x1, x2, x3, x4) (by rw [HE.out]; omega); rw [← hkp, HY.out] at this; rw [hkp] at this ⊢; exact this)
          have t4 : (y1 != x1) = true := by simp; omega
          have HKP := Lib.hid hkp
          clear q1 hc hkp
          have gc := grow_cell3
          have zz1 := K1.out.lt
          have zz2 := K2.out.lt
          have zq := block_lt_of_cell e0
          go_wp2_with fail
          refine wp_region_quiet_below (by kernel_rfl) (by kernel_rfl) ?_
          repeat (go_big_quiet_step (fail))
          refine wpQuiet_nil ?_
          intro w7 hw'
          obtain ⟨⟨dq, osq⟩, hw''⟩ := hw'
          have hb := below_of_grow3 hw''
          clear hw'' gc zz1 zz2 zq
          replace ho := Lib.hid (OwnR.below ho.out hb)
          replace hz := Nat.le_trans hz hb.size
          replace HR := Lib.hid (HR.out.mono hb)
          replace K1 := Lib.hid (K1.out.below hb K1.out.lt)
          replace K2 := Lib.hid (K2.out.below hb K2.out.lt)
          replace K3 := Lib.hid (K3.out.below hb K3.out.lt)
          replace B := Lib.hid (B.out.trans (hb.mono B.out.size))
          clear d0 d1 m0 m1 m2 m3 e0 e1 e2 e3
          clear hb
          obtain ⟨d0, d1⟩ := twob K1.out
          obtain ⟨m0, m1, m2, m3⟩ := four K2.out
          obtain ⟨e0, e1, e2, e3⟩ := RwA.cells_ HR.out (k := k) (by rw [HE.out]; exact hlt) rfl
          rw [HY.out] at e0 e1 e2 e3
          simp only at e0 e1 e2 e3
          obtain ⟨b8, n8, c8, w8, hr, hq, hb, -⟩ := app_oneC w7 Z u5 _ x1 x2 x3 x4 ho.out (by first | (have := LN.out; omega) | (have := LN.out; simp; omega)) hz
          have HA8 := Lib.hid hr
          have O8 := Lib.hid hq
          replace hz := Nat.le_trans hz hb.size
          replace K1 := Lib.hid ((hb.block (G) (by have := HZ.out; omega)).trans K1.out)
          replace K2 := Lib.hid ((hb.block (G + 1) (by have := HZ.out; omega)).trans K2.out)
          replace K3 := Lib.hid ((hb.block (G + 1 + 1) (by have := HZ.out; omega)).trans K3.out)
          replace HR := Lib.hid (HP.out.mono (B.out.trans (hb.mono (by have := HZ.out; have := HG.out; omega))))
          replace B := Lib.hid (B.out.trans (hb.mono (by have := HZ.out; have := HG.out; omega)))
          clear hr hq hb ho
          replace K1 := Lib.hid (show Blk w8 (G) 45 _ from K1.out)
          replace K2 := Lib.hid (show Blk w8 (G + 1) 89 #[.int .i64 x1, .int .i64 x2, .int .i64 x3, .int .i64 x4] from K2.out)
          replace K3 := Lib.hid (show Blk w8 (G + 1 + 1) 45 #[.int .i64 0, .slice none 0 0] from K3.out)
          go_wp2_with (at_builtin; refine wpList_app_run rfl _ _ 43 43 rfl _ _ _ w8 rfl rfl HA8.out ?_)
          clear d0 d1 m0 m1 m2 m3 e0 e1 e2 e3
          obtain ⟨d0, d1⟩ := twob K1.out
          obtain ⟨m0, m1, m2, m3⟩ := four K2.out
          obtain ⟨e0, e1, e2, e3⟩ := RwA.cells_ HR.out (k := k) (by rw [HE.out]; exact hlt) rfl
          rw [HY.out] at e0 e1 e2 e3
          simp only at e0 e1 e2 e3
          have gc := grow_cell3
          have zz1 := K1.out.lt
          have zz2 := K2.out.lt
          have zq := block_lt_of_cell e0
          go_wp2_with fail
          refine wp_region_quiet_below (by kernel_rfl) (by kernel_rfl) ?_
          repeat (go_big_quiet_step (fail))
          refine wpQuiet_nil ?_
          intro w9 hw'
          obtain ⟨⟨dq, osq⟩, hw''⟩ := hw'
          have hb := below_of_grow3 hw''
          clear hw'' gc zz1 zz2 zq
          replace O8 := Lib.hid (OwnR.below O8.out hb)
          replace hz := Nat.le_trans hz hb.size
          replace HR := Lib.hid (HR.out.mono hb)
          replace K1 := Lib.hid (K1.out.below hb K1.out.lt)
          replace K2 := Lib.hid (K2.out.below hb K2.out.lt)
          replace K3 := Lib.hid (K3.out.below hb K3.out.lt)
          replace B := Lib.hid (B.out.trans (hb.mono B.out.size))
          clear d0 d1 m0 m1 m2 m3 e0 e1 e2 e3
          clear hb
          obtain ⟨d0, d1⟩ := twob K1.out
          obtain ⟨m0, m1, m2, m3⟩ := four K2.out
          obtain ⟨e0, e1, e2, e3⟩ := RwA.cells_ HR.out (k := k) (by rw [HE.out]; exact hlt) rfl
          rw [HY.out] at e0 e1 e2 e3
          simp only at e0 e1 e2 e3
          obtain ⟨b10, n10, c10, w10, hr, hq, hb, -⟩ := app_oneC w9 Z (.slice b8 n8 c8) _ y1 y2 y3 y4 O8.out (by first | (have := LN.out; omega) | (have := LN.out; simp; omega)) hz
          have HA10 := Lib.hid hr
          have O10 := Lib.hid hq
          replace hz := Nat.le_trans hz hb.size
          replace K1 := Lib.hid ((hb.block (G) (by have := HZ.out; omega)).trans K1.out)
          replace K2 := Lib.hid ((hb.block (G + 1) (by have := HZ.out; omega)).trans K2.out)
          replace K3 := Lib.hid ((hb.block (G + 1 + 1) (by have := HZ.out; omega)).trans K3.out)
          replace HR := Lib.hid (HP.out.mono (B.out.trans (hb.mono (by have := HZ.out; have := HG.out; omega))))
          replace B := Lib.hid (B.out.trans (hb.mono (by have := HZ.out; have := HG.out; omega)))
          clear hr hq hb O8
          replace K1 := Lib.hid (show Blk w10 (G) 45 _ from K1.out)
          replace K2 := Lib.hid (show Blk w10 (G + 1) 89 #[.int .i64 x1, .int .i64 x2, .int .i64 x3, .int .i64 x4] from K2.out)
          replace K3 := Lib.hid (show Blk w10 (G + 1 + 1) 45 #[.int .i64 0, .slice none 0 0] from K3.out)
          go_wp2_with (at_builtin; refine wpList_app_run rfl _ _ 43 43 rfl _ _ _ w10 rfl rfl HA10.out ?_)
          clear d0 d1 m0 m1 m2 m3 e0 e1 e2 e3
          have OF := Lib.hid (show Co.OwnA w10 Z (.slice b10 n10 c10) (putK l p false (x1, x2, x3, x4) (k + 1)) by rw [HST.out]; exact O10.out)
          go_roundw
          case rel => exact ⟨k + 1, by omega, by go_num, by rw [decide_eq_true (by have := HKP.out; omega)], OF, hz, K1, K2, K3, B⟩
          case measure => simp [intOf]; omega
        · have q3 : x1 = y1 := by omega
          have hh2 := HH.out (by rw [← hkp, HE.out]; exact hlt) (by rw [← hkp, HY.out]; exact q3.symm)
          have e9 : decide (p < k) = false := decide_eq_false (by omega)
          obtain rfl : h = true := hh2
          have HST := Lib.hid (show putK l p true (x1, x2, x3, x4) (k + 1) = putK l p true (x1, x2, x3, x4) k ++ [(x1, x2, x3, x4)] from by rw [hkp]; exact putK_has l p (x1, x2, x3, x4) (by rw [HE.out]; omega))
          have t4 : (y1 != x1) = false := by simp; omega
          have HKP := Lib.hid hkp
          clear q1 q3 hc hkp
          have gc := grow_cell3
          have zz1 := K1.out.lt
          have zz2 := K2.out.lt
          have zq := block_lt_of_cell e0
          go_wp2_with fail
          refine wp_region_quiet_below (by kernel_rfl) (by kernel_rfl) ?_
          repeat (go_big_quiet_step (fail))
          refine wpQuiet_nil ?_
          intro w7 hw'
          obtain ⟨⟨dq, osq⟩, hw''⟩ := hw'
          have hb := below_of_grow3 hw''
          clear hw'' gc zz1 zz2 zq
          replace ho := Lib.hid (OwnR.below ho.out hb)
          replace hz := Nat.le_trans hz hb.size
          replace HR := Lib.hid (HR.out.mono hb)
          replace K1 := Lib.hid (K1.out.below hb K1.out.lt)
          replace K2 := Lib.hid (K2.out.below hb K2.out.lt)
          replace K3 := Lib.hid (K3.out.below hb K3.out.lt)
          replace B := Lib.hid (B.out.trans (hb.mono B.out.size))
          clear d0 d1 m0 m1 m2 m3 e0 e1 e2 e3
          clear hb
          obtain ⟨d0, d1⟩ := twob K1.out
          obtain ⟨m0, m1, m2, m3⟩ := four K2.out
          obtain ⟨e0, e1, e2, e3⟩ := RwA.cells_ HR.out (k := k) (by rw [HE.out]; exact hlt) rfl
          rw [HY.out] at e0 e1 e2 e3
          simp only at e0 e1 e2 e3
          obtain ⟨b8, n8, c8, w8, hr, hq, hb, -⟩ := app_oneC w7 Z u5 _ x1 x2 x3 x4 ho.out (by first | (have := LN.out; omega) | (have := LN.out; simp; omega)) hz
          have HA8 := Lib.hid hr
          have O8 := Lib.hid hq
          replace hz := Nat.le_trans hz hb.size
          replace K1 := Lib.hid ((hb.block (G) (by have := HZ.out; omega)).trans K1.out)
          replace K2 := Lib.hid ((hb.block (G + 1) (by have := HZ.out; omega)).trans K2.out)
          replace K3 := Lib.hid ((hb.block (G + 1 + 1) (by have := HZ.out; omega)).trans K3.out)
          replace HR := Lib.hid (HP.out.mono (B.out.trans (hb.mono (by have := HZ.out; have := HG.out; omega))))
          replace B := Lib.hid (B.out.trans (hb.mono (by have := HZ.out; have := HG.out; omega)))
          clear hr hq hb ho
          replace K1 := Lib.hid (show Blk w8 (G) 45 _ from K1.out)
          replace K2 := Lib.hid (show Blk w8 (G + 1) 89 #[.int .i64 x1, .int .i64 x2, .int .i64 x3, .int .i64 x4] from K2.out)
          replace K3 := Lib.hid (show Blk w8 (G + 1 + 1) 45 #[.int .i64 0, .slice none 0 0] from K3.out)
          go_wp2_with (at_builtin; refine wpList_app_run rfl _ _ 43 43 rfl _ _ _ w8 rfl rfl HA8.out ?_)
          clear d0 d1 m0 m1 m2 m3 e0 e1 e2 e3
          obtain ⟨d0, d1⟩ := twob K1.out
          obtain ⟨m0, m1, m2, m3⟩ := four K2.out
          obtain ⟨e0, e1, e2, e3⟩ := RwA.cells_ HR.out (k := k) (by rw [HE.out]; exact hlt) rfl
          rw [HY.out] at e0 e1 e2 e3
          simp only at e0 e1 e2 e3
          have gc := grow_cell3
          have zz1 := K1.out.lt
          have zz2 := K2.out.lt
          have zq := block_lt_of_cell e0
          go_wp2_with fail
          refine wp_region_quiet_below (by kernel_rfl) (by kernel_rfl) ?_
          repeat (go_big_quiet_step (fail))
          refine wpQuiet_nil ?_
          intro w9 hw'
          obtain ⟨⟨dq, osq⟩, hw''⟩ := hw'
          have hb := below_of_grow3 hw''
          clear hw'' gc zz1 zz2 zq
          replace O8 := Lib.hid (OwnR.below O8.out hb)
          replace hz := Nat.le_trans hz hb.size
          replace HR := Lib.hid (HR.out.mono hb)
          replace K1 := Lib.hid (K1.out.below hb K1.out.lt)
          replace K2 := Lib.hid (K2.out.below hb K2.out.lt)
          replace K3 := Lib.hid (K3.out.below hb K3.out.lt)
          replace B := Lib.hid (B.out.trans (hb.mono B.out.size))
          clear d0 d1 m0 m1 m2 m3 e0 e1 e2 e3
          clear hb
          obtain ⟨d0, d1⟩ := twob K1.out
          obtain ⟨m0, m1, m2, m3⟩ := four K2.out
          obtain ⟨e0, e1, e2, e3⟩ := RwA.cells_ HR.out (k := k) (by rw [HE.out]; exact hlt) rfl
          rw [HY.out] at e0 e1 e2 e3
          simp only at e0 e1 e2 e3
          go_wp2
          have OF := Lib.hid (show Co.OwnA w9 Z (.slice b8 n8 c8) (putK l p true (x1, x2, x3, x4) (k + 1)) by rw [HST.out]; exact O8.out)
          go_roundw
          case rel => exact ⟨k + 1, by omega, by go_num, by rw [decide_eq_true (by have := HKP.out; omega)], OF, hz, K1, K2, K3, B⟩
          case measure => simp [intOf]; omega
      · have hc := PG.out k hkp (by rw [HE.out]; exact hlt)
        rw [HY.out] at hc
        simp only at hc
        have e9 : decide (p < k) = true := decide_eq_true (by omega)
        have HST := Lib.hid (by have := putK_above l p h (x1, x2, x3, x4) k hkp (by rw [HE.out]; exact hlt); rw [HY.out] at this; exact this)
        have t4 : (y1 != x1) = true := by simp; omega
        clear hc
        have gc := grow_cell3
        have zz1 := K1.out.lt
        have zz2 := K2.out.lt
        have zq := block_lt_of_cell e0
        go_wp2_with fail
        refine wp_region_quiet_below (by kernel_rfl) (by kernel_rfl) ?_
        repeat (go_big_quiet_step (fail))
        refine wpQuiet_nil ?_
        intro w7 hw'
        obtain ⟨⟨dq, osq⟩, hw''⟩ := hw'
        have hb := below_of_grow3 hw''
        clear hw'' gc zz1 zz2 zq
        replace ho := Lib.hid (OwnR.below ho.out hb)
        replace hz := Nat.le_trans hz hb.size
        replace HR := Lib.hid (HR.out.mono hb)
        replace K1 := Lib.hid (K1.out.below hb K1.out.lt)
        replace K2 := Lib.hid (K2.out.below hb K2.out.lt)
        replace K3 := Lib.hid (K3.out.below hb K3.out.lt)
        replace B := Lib.hid (B.out.trans (hb.mono B.out.size))
        clear d0 d1 m0 m1 m2 m3 e0 e1 e2 e3
        clear hb
        obtain ⟨d0, d1⟩ := twob K1.out
        obtain ⟨m0, m1, m2, m3⟩ := four K2.out
        obtain ⟨e0, e1, e2, e3⟩ := RwA.cells_ HR.out (k := k) (by rw [HE.out]; exact hlt) rfl
        rw [HY.out] at e0 e1 e2 e3
        simp only at e0 e1 e2 e3
        have gc := grow_cell3
        have zz1 := K1.out.lt
        have zz2 := K2.out.lt
        have zq := block_lt_of_cell e0
        go_wp2_with fail
        refine wp_region_quiet_below (by kernel_rfl) (by kernel_rfl) ?_
        repeat (go_big_quiet_step (fail))
        refine wpQuiet_nil ?_
        intro w8 hw'
        obtain ⟨⟨dq, osq⟩, hw''⟩ := hw'
        have hb := below_of_grow3 hw''
        clear hw'' gc zz1 zz2 zq
        replace ho := Lib.hid (OwnR.below ho.out hb)
        replace hz := Nat.le_trans hz hb.size
        replace HR := Lib.hid (HR.out.mono hb)
        replace K1 := Lib.hid (K1.out.below hb K1.out.lt)
        replace K2 := Lib.hid (K2.out.below hb K2.out.lt)
        replace K3 := Lib.hid (K3.out.below hb K3.out.lt)
        replace B := Lib.hid (B.out.trans (hb.mono B.out.size))
        clear d0 d1 m0 m1 m2 m3 e0 e1 e2 e3
        clear hb
        obtain ⟨d0, d1⟩ := twob K1.out
        obtain ⟨m0, m1, m2, m3⟩ := four K2.out
        obtain ⟨e0, e1, e2, e3⟩ := RwA.cells_ HR.out (k := k) (by rw [HE.out]; exact hlt) rfl
        rw [HY.out] at e0 e1 e2 e3
        simp only at e0 e1 e2 e3
        obtain ⟨b9, n9, c9, w9, hr, hq, hb, -⟩ := app_oneC w8 Z u5 _ y1 y2 y3 y4 ho.out (by first | (have := LN.out; omega) | (have := LN.out; simp; omega)) hz
        have HA9 := Lib.hid hr
        have O9 := Lib.hid hq
        replace hz := Nat.le_trans hz hb.size
        replace K1 := Lib.hid ((hb.block (G) (by have := HZ.out; omega)).trans K1.out)
        replace K2 := Lib.hid ((hb.block (G + 1) (by have := HZ.out; omega)).trans K2.out)
        replace K3 := Lib.hid ((hb.block (G + 1 + 1) (by have := HZ.out; omega)).trans K3.out)
        replace HR := Lib.hid (HP.out.mono (B.out.trans (hb.mono (by have := HZ.out; have := HG.out; omega))))
        replace B := Lib.hid (B.out.trans (hb.mono (by have := HZ.out; have := HG.out; omega)))
        clear hr hq hb ho
        replace K1 := Lib.hid (show Blk w9 (G) 45 _ from K1.out)
        replace K2 := Lib.hid (show Blk w9 (G + 1) 89 #[.int .i64 x1, .int .i64 x2, .int .i64 x3, .int .i64 x4] from K2.out)
        replace K3 := Lib.hid (show Blk w9 (G + 1 + 1) 45 #[.int .i64 0, .slice none 0 0] from K3.out)
        go_wp2_with (at_builtin; refine wpList_app_run rfl _ _ 43 43 rfl _ _ _ w9 rfl rfl HA9.out ?_)
        clear d0 d1 m0 m1 m2 m3 e0 e1 e2 e3
        have OF := Lib.hid (show Co.OwnA w9 Z (.slice b9 n9 c9) (putK l p h (x1, x2, x3, x4) (k + 1)) by rw [HST.out]; exact O9.out)
        go_roundw
        case rel => exact ⟨k + 1, by omega, by go_num, by rw [decide_eq_true (by omega)], OF, hz, K1, K2, K3, B⟩
        case measure => simp [intOf]; omega
    · have hkN : N = k := by omega
      subst hkN
      have hbe := B
      clear hlt hk B
      obtain ⟨d0, d1⟩ := twob K1.out
      obtain ⟨m0, m1, m2, m3⟩ := four K2.out
      by_cases hpN : p < N
      · have e9 : decide (p < N) = true := decide_eq_true hpN
        have ho2 := ho.out
        rw [HEND.out hpN] at ho2
        obtain ⟨a6, c6, e6, -, -⟩ := OwnR.view encR_len ho2
        obtain ⟨n6, hn6⟩ : ∃ n, (putL l p h (x1, x2, x3, x4)).length = n := ⟨_, rfl⟩
        rw [hn6] at e6
        subst e6
        have O6 := Lib.hid ho2
        clear ho2 ho hn6 hpN
        have fz1 := fun q => K1.out.frozen q
        replace O6 := Lib.hid (OwnR.far O6.out (p := ⟨G, 1, none⟩) (show G < Z by have := HZ.out; omega) (.slice a6 n6 c6))
        replace K1 := Lib.hid (show Blk (wr.setCell ⟨G, 1, none⟩ (.slice a6 n6 c6)) G 45 #[.int .i64 len, .slice a6 n6 c6] from K1.out.set_ 1 _)
        replace K3 := Lib.hid (K3.out.far (p := ⟨G, 1, none⟩) (by simp; omega) (.slice a6 n6 c6))
        replace hbe := Lib.hid (hbe.out.setCell (p := ⟨G, 1, none⟩) (show w.heap.size ≤ G by have := HG.out; omega) (.slice a6 n6 c6))
        go_upto_region 14 with (fail)
        generalize hw7 : wr.setCell ⟨G, 1, none⟩ (.slice a6 n6 c6) = w7 at O6 K1 K3 hbe ⊢
        clear hw7 fz1 K2 d0 d1 m0 m1 m2 m3
        obtain ⟨d0, d1⟩ := twob K1.out
        obtain ⟨h0, h1⟩ := twob K3.out
        have fz := fun q => K3.out.frozen q
        go_wp2
        have K9 := Lib.hid (K3.out.set2 (.int .i64 len) (.slice a6 n6 c6))
        have B9 := Lib.hid ((hbe.out.setCell (p := ⟨G + 1 + 1, 0, none⟩) (show w.heap.size ≤ G + 1 + 1 by have := HG.out; omega) (.int .i64 len)).setCell (p := ⟨G + 1 + 1, 1, none⟩) (show w.heap.size ≤ G + 1 + 1 by have := HG.out; omega) (.slice a6 n6 c6))
        have O9 := Lib.hid (OwnR.far (OwnR.far O6.out (p := ⟨G + 1 + 1, 0, none⟩) (show G + 1 + 1 < Z by have := HZ.out; omega) (.int .i64 len)) (p := ⟨G + 1 + 1, 1, none⟩) (show G + 1 + 1 < Z by have := HZ.out; omega) (.slice a6 n6 c6))
        generalize hw2 : (w7.setCell ⟨G + 1 + 1, 0, none⟩ (.int .i64 len)).setCell ⟨G + 1 + 1, 1, none⟩ (.slice a6 n6 c6) = w9 at K9 B9 O9 ⊢
        clear hw2 d0 d1 h0 h1 fz
        obtain ⟨d0, d1⟩ := twob K9.out
        obtain ⟨av, cv, ev, -, hv⟩ := OwnR.view encR_len O9.out
        injection ev with ev1 ev2 ev3
        have NL := Lib.hid ev2
        have HV := Lib.hid hv
        have FR := Lib.hid (fun q hq => OwnR.block O9.out q hq)
        clear ev2 hv ev3
        refine bodyPost_ret (by simp [results, Try.results67, go_sem, d0, d1]; try rfl) rfl ?_
        refine ⟨⟨a6, c6, by rw [NL.out], by rw [ev1]; exact HV.out, fun q hq => by have := FR.out q hq; have := HZ.out; have := HG.out; omega⟩, B9.out⟩
      · have e9 : decide (p < N) = false := decide_eq_false hpN
        have hpE : p = N := by omega
        obtain ⟨a6, n6, c6, w1, hr1, ho1, hb1, -⟩ := app_oneC wr Z u5 _ x1 x2 x3 x4 ho.out (by have := putK_len l p h (x1, x2, x3, x4) N (by rw [HE.out]; exact Nat.le_refl _); omega) hz
        have HR1 := Lib.hid hr1
        rw [HLST.out hpE] at ho1
        have O6 := Lib.hid ho1
        replace K1 := Lib.hid (show Blk w1 G 45 #[.int .i64 len, .slice a N c] from (hb1.block G (by omega)).trans K1.out)
        replace K3 := Lib.hid (show Blk w1 (G + 1 + 1) 45 #[.int .i64 0, .slice none 0 0] from (hb1.block (G + 1 + 1) (by omega)).trans K3.out)
        have K2w := Lib.hid (show Blk w1 (G + 1) 89 #[.int .i64 x1, .int .i64 x2, .int .i64 x3, .int .i64 x4] from (hb1.block (G + 1) (by omega)).trans K2.out)
        replace hbe := Lib.hid (hbe.out.trans (hb1.mono (by have := HZ.out; have := HG.out; omega)))
        clear hr1 ho1 hb1 ho hpE hpN
        obtain ⟨v0, v1⟩ := twob K1.out
        go_upto_region 13 with (at_builtin; refine wpList_app_run rfl _ _ 43 43 rfl _ _ _ w1 rfl rfl HR1.out ?_)
        clear d0 d1
        obtain ⟨d0, d1⟩ := twob K1.out
        clear v0 v1
        have fz1 := fun q => K1.out.frozen q
        replace O6 := Lib.hid (OwnR.far O6.out (p := ⟨G, 1, none⟩) (show G < Z by have := HZ.out; omega) (.slice a6 n6 c6))
        replace K1 := Lib.hid (show Blk (w1.setCell ⟨G, 1, none⟩ (.slice a6 n6 c6)) G 45 #[.int .i64 len, .slice a6 n6 c6] from K1.out.set_ 1 _)
        replace K3 := Lib.hid (K3.out.far (p := ⟨G, 1, none⟩) (by simp; omega) (.slice a6 n6 c6))
        replace hbe := Lib.hid (hbe.out.setCell (p := ⟨G, 1, none⟩) (show w.heap.size ≤ G by have := HG.out; omega) (.slice a6 n6 c6))
        go_upto_region 14 with (fail)
        generalize hw7 : w1.setCell ⟨G, 1, none⟩ (.slice a6 n6 c6) = w7 at O6 K1 K3 hbe ⊢
        clear hw7 fz1 K2 d0 d1 m0 m1 m2 m3
        obtain ⟨d0, d1⟩ := twob K1.out
        obtain ⟨h0, h1⟩ := twob K3.out
        have fz := fun q => K3.out.frozen q
        go_wp2
        have K9 := Lib.hid (K3.out.set2 (.int .i64 len) (.slice a6 n6 c6))
        have B9 := Lib.hid ((hbe.out.setCell (p := ⟨G + 1 + 1, 0, none⟩) (show w.heap.size ≤ G + 1 + 1 by have := HG.out; omega) (.int .i64 len)).setCell (p := ⟨G + 1 + 1, 1, none⟩) (show w.heap.size ≤ G + 1 + 1 by have := HG.out; omega) (.slice a6 n6 c6))
        have O9 := Lib.hid (OwnR.far (OwnR.far O6.out (p := ⟨G + 1 + 1, 0, none⟩) (show G + 1 + 1 < Z by have := HZ.out; omega) (.int .i64 len)) (p := ⟨G + 1 + 1, 1, none⟩) (show G + 1 + 1 < Z by have := HZ.out; omega) (.slice a6 n6 c6))
        generalize hw2 : (w7.setCell ⟨G + 1 + 1, 0, none⟩ (.int .i64 len)).setCell ⟨G + 1 + 1, 1, none⟩ (.slice a6 n6 c6) = w9 at K9 B9 O9 ⊢
        clear hw2 d0 d1 h0 h1 fz
        obtain ⟨d0, d1⟩ := twob K9.out
        obtain ⟨av, cv, ev, -, hv⟩ := OwnR.view encR_len O9.out
        injection ev with ev1 ev2 ev3
        have NL := Lib.hid ev2
        have HV := Lib.hid hv
        have FR := Lib.hid (fun q hq => OwnR.block O9.out q hq)
        clear ev2 hv ev3
        refine bodyPost_ret (by simp [results, Try.results67, go_sem, d0, d1]; try rfl) rfl ?_
        refine ⟨⟨a6, c6, by rw [NL.out], by rw [ev1]; exact HV.out, fun q hq => by have := FR.out q hq; have := HZ.out; have := HG.out; omega⟩, B9.out⟩
end
section
open Go.RowKit Go.Sort
theorem put_with {l : List Rw} {x : Rw} (h : hasC (cW x.1) l = true ∨ ¬ x = (x.1, 0, 0, 0)) : putL l (posC (cW x.1) l) (hasC (cW x.1) l) x = withL l x := by
  unfold putL withL
  cases e : hasC (cW x.1) l
  · rw [e] at h
    rw [if_neg (by decide), if_neg (by decide), if_neg (by simpa using h)]
  · rfl
theorem coinL_is (l : List Rw) (w : Int) : ∃ x2 x3 x4 : Int, coinL l w = (w, x2, x3, x4) := ⟨(coinL l w).2.1, (coinL l w).2.2.1, (coinL l w).2.2.2, (congrArg (fun z => (z, (coinL l w).2.1, (coinL l w).2.2.1, (coinL l w).2.2.2)) (coinL_w (l := l) w) : _)⟩
theorem coin_zero {l : List Rw} {w : Int} (h : hasC (cW w) l = false) : coinL l w = (w, 0, 0, 0) := by unfold coinL; rw [h]; rfl
set_option maxRecDepth 100000 in
set_option maxHeartbeats 2000000 in
theorem newpref_yes (len : Int) (w : World) (ok : OkP len []) :
    Calls Try.prog 29 #[.int .i64 len] w fun e w' => e = .returned (.agg #[.int .i64 len, .slice none 0 0, .int .i64 0]) ∧ Below w.heap.size w w' := by
  have C := Lib.hid (fun X : World => rvalidp_yes ok none 0 X (RowsA.nil _ _ _ _))
  simp only [List.length_nil] at C
  clear ok
  go_enter Try.func29, Try.ntmps29
  obtain ⟨G, hG⟩ : ∃ G, w.heap.size = G := ⟨_, rfl⟩
  have HG := Lib.hid hG
  have Kr := Lib.hid (show Blk (w.alloc (.cells #[.int .i64 0, .slice none 0 0, .int .i64 0] 51)) (G) 51 #[.int .i64 0, .slice none 0 0, .int .i64 0] from Blk.new' _ _ _ _ hG rfl)
  have B := Lib.hid (show Below w.heap.size w (w.alloc (.cells #[.int .i64 0, .slice none 0 0, .int .i64 0] 51)) by (repeat' (first | (with_reducible exact Below.refl _ _) | (with_reducible assumption) | (with_reducible refine Below.alloc ?_ ?_ _) | (with_reducible refine Below.drew ?_) | (with_reducible refine below_dn ?_) | (with_reducible refine Below.setCell ?_ ?_ _) | (with_reducible exact Nat.le_refl _) | omega | (simp only [World.size_alloc, World.size_setCell, World.size_drew]; omega) | (simp; omega) | (simp; done))))
  go_upto_region 1 with (fail)
  try rw [hG]
  generalize hw0 : (w.alloc (.cells #[.int .i64 0, .slice none 0 0, .int .i64 0] 51)) = w0 at Kr B ⊢
  clear hw0 hG
  obtain ⟨brc0, brc1, brc2⟩ := three Kr.out
  obtain ⟨gb, hgb⟩ : ∃ G, w0.heap.size = G := ⟨_, rfl⟩
  have Kb := Lib.hid (show Blk (w0.alloc (.cells #[.int .i64 len, .slice none 0 0] 45)) gb 45 #[.int .i64 len, .slice none 0 0] from Blk.new' w0 _ _ _ hgb rfl)
  have Nrb := Lib.hid (show G < gb from by rw [← hgb]; exact Kr.out.lt)
  replace Kr := Lib.hid (Kr.out.alloc (.cells #[.int .i64 len, .slice none 0 0] 45))
  have Lb := Lib.hid (show w.heap.size ≤ gb from by rw [← hgb]; exact B.out.size)
  replace B := Lib.hid (B.out.alloc B.out.size (.cells #[.int .i64 len, .slice none 0 0] 45))
  go_upto_region 2 with (fail)
  try rw [hgb]
  generalize hw : w0.alloc (.cells #[.int .i64 len, .slice none 0 0] 45) = w1 at Kr Kb  B ⊢
  clear brc0 brc1 brc2
  clear hw hgb
  obtain ⟨brc0, brc1, brc2⟩ := three Kr.out
  obtain ⟨bbc0, bbc1⟩ := twob Kb.out
  go_wp2_with fail
  refine (C.out _).mono ?_
  rintro e w2 ⟨rfl, hb⟩
  replace Kr := Lib.hid (Kr.out.below hb Kr.out.lt)
  replace Kb := Lib.hid (Kb.out.below hb Kb.out.lt)
  replace B := Lib.hid (B.out.trans (hb.mono B.out.size))
  clear brc0 brc1 brc2 bbc0 bbc1
  clear hb
  obtain ⟨brc0, brc1, brc2⟩ := three Kr.out
  obtain ⟨bbc0, bbc1⟩ := twob Kb.out
  clear brc0 brc1 brc2 bbc0 bbc1
  obtain ⟨brc0, brc1, brc2⟩ := three Kr.out
  obtain ⟨bbc0, bbc1⟩ := twob Kb.out
  have fzr := fun q => Kr.out.frozen q
  go_wp2
  have K9 := Lib.hid (Kr.out.set3 (.int .i64 len) (.slice none 0 0) (.int .i64 0))
  have B9 := (((B.out.setCell (p := ⟨G, 0, none⟩) (show w.heap.size ≤ G by have := HG.out; omega) (.int .i64 len)).setCell (p := ⟨G, 1, none⟩) (show w.heap.size ≤ G by have := HG.out; omega) (.slice none 0 0)).setCell (p := ⟨G, 2, none⟩) (show w.heap.size ≤ G by have := HG.out; omega) (.int .i64 0))
  simp only [set3] at K9
  generalize hw2 : (((w2.setCell ⟨G, 0, none⟩ (.int .i64 len)).setCell ⟨G, 1, none⟩ (.slice none 0 0)).setCell ⟨G, 2, none⟩ (.int .i64 0)) = w9 at K9 B9 ⊢
  clear brc0 brc1 brc2 bbc0 bbc1 fzr
  clear hw2
  obtain ⟨d0, d1, d2⟩ := three K9.out
  refine bodyPost_ret (by simp [results, Try.results29, go_sem, d0, d1, d2]; try rfl) rfl ?_
  exact ⟨rfl, B9⟩
set_option maxRecDepth 100000 in
set_option maxHeartbeats 2000000 in
theorem newpref_no (len : Int) (w : World) (no : ¬ OkP len []) :
    Calls Try.prog 29 #[.int .i64 len] w fun e w' => e = .returned (.agg #[.int .i64 0, .slice none 0 0, .int .i64 1]) ∧ Below w.heap.size w w' := by
  have C := Lib.hid (fun X : World => rvalidp_no no (by simp) none 0 X (RowsA.nil _ _ _ _))
  simp only [List.length_nil] at C
  clear no
  go_enter Try.func29, Try.ntmps29
  obtain ⟨G, hG⟩ : ∃ G, w.heap.size = G := ⟨_, rfl⟩
  have HG := Lib.hid hG
  have Kr := Lib.hid (show Blk (w.alloc (.cells #[.int .i64 0, .slice none 0 0, .int .i64 0] 51)) (G) 51 #[.int .i64 0, .slice none 0 0, .int .i64 0] from Blk.new' _ _ _ _ hG rfl)
  have B := Lib.hid (show Below w.heap.size w (w.alloc (.cells #[.int .i64 0, .slice none 0 0, .int .i64 0] 51)) by (repeat' (first | (with_reducible exact Below.refl _ _) | (with_reducible assumption) | (with_reducible refine Below.alloc ?_ ?_ _) | (with_reducible refine Below.drew ?_) | (with_reducible refine below_dn ?_) | (with_reducible refine Below.setCell ?_ ?_ _) | (with_reducible exact Nat.le_refl _) | omega | (simp only [World.size_alloc, World.size_setCell, World.size_drew]; omega) | (simp; omega) | (simp; done))))
  go_upto_region 1 with (fail)
  try rw [hG]
  generalize hw0 : (w.alloc (.cells #[.int .i64 0, .slice none 0 0, .int .i64 0] 51)) = w0 at Kr B ⊢
  clear hw0 hG
  obtain ⟨brc0, brc1, brc2⟩ := three Kr.out
  obtain ⟨gb, hgb⟩ : ∃ G, w0.heap.size = G := ⟨_, rfl⟩
  have Kb := Lib.hid (show Blk (w0.alloc (.cells #[.int .i64 len, .slice none 0 0] 45)) gb 45 #[.int .i64 len, .slice none 0 0] from Blk.new' w0 _ _ _ hgb rfl)
  have Nrb := Lib.hid (show G < gb from by rw [← hgb]; exact Kr.out.lt)
  replace Kr := Lib.hid (Kr.out.alloc (.cells #[.int .i64 len, .slice none 0 0] 45))
  have Lb := Lib.hid (show w.heap.size ≤ gb from by rw [← hgb]; exact B.out.size)
  replace B := Lib.hid (B.out.alloc B.out.size (.cells #[.int .i64 len, .slice none 0 0] 45))
  go_upto_region 2 with (fail)
  try rw [hgb]
  generalize hw : w0.alloc (.cells #[.int .i64 len, .slice none 0 0] 45) = w1 at Kr Kb  B ⊢
  clear brc0 brc1 brc2
  clear hw hgb
  obtain ⟨brc0, brc1, brc2⟩ := three Kr.out
  obtain ⟨bbc0, bbc1⟩ := twob Kb.out
  go_wp2_with fail
  refine (C.out _).mono ?_
  rintro e w2 ⟨rfl, hb⟩
  replace Kr := Lib.hid (Kr.out.below hb Kr.out.lt)
  replace Kb := Lib.hid (Kb.out.below hb Kb.out.lt)
  replace B := Lib.hid (B.out.trans (hb.mono B.out.size))
  clear brc0 brc1 brc2 bbc0 bbc1
  clear hb
  obtain ⟨brc0, brc1, brc2⟩ := three Kr.out
  obtain ⟨bbc0, bbc1⟩ := twob Kb.out
  clear brc0 brc1 brc2 bbc0 bbc1
  obtain ⟨brc0, brc1, brc2⟩ := three Kr.out
  obtain ⟨bbc0, bbc1⟩ := twob Kb.out
  have fzr := fun q => Kr.out.frozen q
  go_wp2
  have K9 := Lib.hid (Kr.out.set3 (.int .i64 0) (.slice none 0 0) (.int .i64 1))
  have B9 := (((B.out.setCell (p := ⟨G, 0, none⟩) (show w.heap.size ≤ G by have := HG.out; omega) (.int .i64 0)).setCell (p := ⟨G, 1, none⟩) (show w.heap.size ≤ G by have := HG.out; omega) (.slice none 0 0)).setCell (p := ⟨G, 2, none⟩) (show w.heap.size ≤ G by have := HG.out; omega) (.int .i64 1))
  simp only [set3] at K9
  generalize hw2 : (((w2.setCell ⟨G, 0, none⟩ (.int .i64 0)).setCell ⟨G, 1, none⟩ (.slice none 0 0)).setCell ⟨G, 2, none⟩ (.int .i64 1)) = w9 at K9 B9 ⊢
  clear brc0 brc1 brc2 bbc0 bbc1 fzr
  clear hw2
  obtain ⟨d0, d1, d2⟩ := three K9.out
  refine bodyPost_ret (by simp [results, Try.results29, go_sem, d0, d1, d2]; try rfl) rfl ?_
  exact ⟨rfl, B9⟩
set_option maxRecDepth 100000 in
set_option maxHeartbeats 2000000 in
theorem leftref_any (len : Int) (a : Option Addr) (c : Nat) (l : List Rw) (wi : Int) (w : World) (hp : RwA w a l) (ok : OkP len l) :
    Calls Try.prog 38 #[.agg #[.int .i64 len, .slice a l.length c], .int .i64 wi] w fun e w' => e = .returned (.int .i64 (leftX (coinL l wi))) ∧ Below w.heap.size w w' := by
  have HP := Lib.hid hp
  have C := Lib.hid (fun (X : World) (h : RwA X a l) => rvalidp_yes ok a c X h)
  have CO := Lib.hid (fun (X : World) (h : RwA X a l) => coinref_any len a c l wi X h ok.ord (by have := ok.head.2; omega))
  have ck := coinL_ok ok wi
  obtain ⟨x2, x3, x4, hx⟩ := coinL_is l wi
  obtain ⟨hh, hhh⟩ : ∃ z, hasC (cW wi) l = z := ⟨_, rfl⟩
  simp only [hx, hhh, encR] at CO
  rw [hx] at ck
  simp only at ck
  obtain ⟨⟨k1, k2⟩, ⟨k3, k4⟩, k5, k6⟩ := ck
  rw [hx]
  simp only [leftX]
  have wr1 : IntKind.i64.wrap (x2 - x3) = x2 - x3 := by rw [IntKind.wrap_i64]; omega
  have wr2 : IntKind.i64.wrap (x2 - x3 - x4) = x2 - x3 - x4 := by rw [IntKind.wrap_i64]; omega
  obtain ⟨N, hN⟩ : ∃ N, l.length = N := ⟨_, rfl⟩
  simp only [hN] at C CO
  rw [hN]
  clear hp hN ok hx hhh
  go_enter Try.func38, Try.ntmps38
  obtain ⟨G, hG⟩ : ∃ G, w.heap.size = G := ⟨_, rfl⟩
  have HG := Lib.hid hG
  have Kb := Lib.hid (show Blk (w.alloc (.cells #[.int .i64 len, .slice a N c] 45)) (G) 45 #[.int .i64 len, .slice a N c] from Blk.new' _ _ _ _ hG rfl)
  have B := Lib.hid (show Below w.heap.size w (w.alloc (.cells #[.int .i64 len, .slice a N c] 45)) by (repeat' (first | (with_reducible exact Below.refl _ _) | (with_reducible assumption) | (with_reducible refine Below.alloc ?_ ?_ _) | (with_reducible refine Below.drew ?_) | (with_reducible refine below_dn ?_) | (with_reducible refine Below.setCell ?_ ?_ _) | (with_reducible exact Nat.le_refl _) | omega | (simp only [World.size_alloc, World.size_setCell, World.size_drew]; omega) | (simp; omega) | (simp; done))))
  go_upto_region 1 with (fail)
  try rw [hG]
  generalize hw0 : (w.alloc (.cells #[.int .i64 len, .slice a N c] 45)) = w0 at Kb B ⊢
  clear hw0 hG
  obtain ⟨bbc0, bbc1⟩ := twob Kb.out
  go_wp2_with fail
  refine (C.out _ (HP.out.mono B.out)).mono ?_
  rintro e w1 ⟨rfl, hb⟩
  replace Kb := Lib.hid (Kb.out.below hb Kb.out.lt)
  replace B := Lib.hid (B.out.trans (hb.mono B.out.size))
  clear bbc0 bbc1
  clear hb
  obtain ⟨bbc0, bbc1⟩ := twob Kb.out
  go_wp2_with fail
  refine (CO.out _ (HP.out.mono B.out)).mono ?_
  rintro e w2 ⟨rfl, hb⟩
  replace Kb := Lib.hid (Kb.out.below hb Kb.out.lt)
  replace B := Lib.hid (B.out.trans (hb.mono B.out.size))
  clear bbc0 bbc1
  clear hb
  obtain ⟨bbc0, bbc1⟩ := twob Kb.out
  obtain ⟨gx, hgx⟩ : ∃ G, w2.heap.size = G := ⟨_, rfl⟩
  have Kx := Lib.hid (show Blk (w2.alloc (.cells #[.int .i64 wi, .int .i64 x2, .int .i64 x3, .int .i64 x4] 89)) gx 89 #[.int .i64 wi, .int .i64 x2, .int .i64 x3, .int .i64 x4] from Blk.new' w2 _ _ _ hgx rfl)
  have Nbx := Lib.hid (show G < gx from by rw [← hgx]; exact Kb.out.lt)
  replace Kb := Lib.hid (Kb.out.alloc (.cells #[.int .i64 wi, .int .i64 x2, .int .i64 x3, .int .i64 x4] 89))
  have Lx := Lib.hid (show w.heap.size ≤ gx from by rw [← hgx]; exact B.out.size)
  replace B := Lib.hid (B.out.alloc B.out.size (.cells #[.int .i64 wi, .int .i64 x2, .int .i64 x3, .int .i64 x4] 89))
  go_upto_region 5 with (fail)
  try rw [hgx]
  generalize hw : w2.alloc (.cells #[.int .i64 wi, .int .i64 x2, .int .i64 x3, .int .i64 x4] 89) = w3 at Kb Kx  B ⊢
  clear bbc0 bbc1
  clear hw hgx
  obtain ⟨bbc0, bbc1⟩ := twob Kb.out
  obtain ⟨bxc0, bxc1, bxc2, bxc3⟩ := four Kx.out
  go_wp2
  go_ret
  exact ⟨rfl, B.out⟩
set_option maxRecDepth 100000 in
set_option maxHeartbeats 2000000 in
theorem leftref_no (len : Int) (a : Option Addr) (c : Nat) (l : List Rw) (wi : Int) (w : World) (hp : RwA w a l) (no : ¬ OkP len l) (hm : l.length ≤ 9223372036854775807) :
    Calls Try.prog 38 #[.agg #[.int .i64 len, .slice a l.length c], .int .i64 wi] w fun e w' => e = .returned (.int .i64 0) ∧ Below w.heap.size w w' := by
  have HP := Lib.hid hp
  have C := Lib.hid (fun (X : World) (h : RwA X a l) => rvalidp_no no hm a c X h)
  obtain ⟨N, hN⟩ : ∃ N, l.length = N := ⟨_, rfl⟩
  simp only [hN] at C
  rw [hN]
  clear hp hN no hm
  go_enter Try.func38, Try.ntmps38
  obtain ⟨G, hG⟩ : ∃ G, w.heap.size = G := ⟨_, rfl⟩
  have HG := Lib.hid hG
  have Kb := Lib.hid (show Blk (w.alloc (.cells #[.int .i64 len, .slice a N c] 45)) (G) 45 #[.int .i64 len, .slice a N c] from Blk.new' _ _ _ _ hG rfl)
  have B := Lib.hid (show Below w.heap.size w (w.alloc (.cells #[.int .i64 len, .slice a N c] 45)) by (repeat' (first | (with_reducible exact Below.refl _ _) | (with_reducible assumption) | (with_reducible refine Below.alloc ?_ ?_ _) | (with_reducible refine Below.drew ?_) | (with_reducible refine below_dn ?_) | (with_reducible refine Below.setCell ?_ ?_ _) | (with_reducible exact Nat.le_refl _) | omega | (simp only [World.size_alloc, World.size_setCell, World.size_drew]; omega) | (simp; omega) | (simp; done))))
  go_upto_region 1 with (fail)
  try rw [hG]
  generalize hw0 : (w.alloc (.cells #[.int .i64 len, .slice a N c] 45)) = w0 at Kb B ⊢
  clear hw0 hG
  obtain ⟨bbc0, bbc1⟩ := twob Kb.out
  go_wp2_with fail
  refine (C.out _ (HP.out.mono B.out)).mono ?_
  rintro e w1 ⟨rfl, hb⟩
  replace Kb := Lib.hid (Kb.out.below hb Kb.out.lt)
  replace B := Lib.hid (B.out.trans (hb.mono B.out.size))
  clear bbc0 bbc1
  clear hb
  obtain ⟨bbc0, bbc1⟩ := twob Kb.out
  go_wp2
  go_ret
  exact ⟨rfl, B.out⟩
set_option maxRecDepth 100000 in
set_option maxHeartbeats 2000000 in
theorem backref_any (len : Int) (a : Option Addr) (c : Nat) (l : List Rw) (wi : Int) (w : World) (hp : RwA w a l) (ok : OkP len l) :
    Calls Try.prog 40 #[.agg #[.int .i64 len, .slice a l.length c], .int .i64 wi] w fun e w' => e = .returned (.int .i64 (coinL l wi).2.2.2) ∧ Below w.heap.size w w' := by
  have HP := Lib.hid hp
  have C := Lib.hid (fun (X : World) (h : RwA X a l) => rvalidp_yes ok a c X h)
  have CO := Lib.hid (fun (X : World) (h : RwA X a l) => coinref_any len a c l wi X h ok.ord (by have := ok.head.2; omega))
  have ck := coinL_ok ok wi
  obtain ⟨x2, x3, x4, hx⟩ := coinL_is l wi
  obtain ⟨hh, hhh⟩ : ∃ z, hasC (cW wi) l = z := ⟨_, rfl⟩
  simp only [hx, hhh, encR] at CO
  rw [hx] at ck
  simp only at ck
  obtain ⟨⟨k1, k2⟩, ⟨k3, k4⟩, k5, k6⟩ := ck
  rw [hx]
  simp only
  obtain ⟨N, hN⟩ : ∃ N, l.length = N := ⟨_, rfl⟩
  simp only [hN] at C CO
  rw [hN]
  clear hp hN ok hx hhh
  go_enter Try.func40, Try.ntmps40
  obtain ⟨G, hG⟩ : ∃ G, w.heap.size = G := ⟨_, rfl⟩
  have HG := Lib.hid hG
  have Kb := Lib.hid (show Blk (w.alloc (.cells #[.int .i64 len, .slice a N c] 45)) (G) 45 #[.int .i64 len, .slice a N c] from Blk.new' _ _ _ _ hG rfl)
  have B := Lib.hid (show Below w.heap.size w (w.alloc (.cells #[.int .i64 len, .slice a N c] 45)) by (repeat' (first | (with_reducible exact Below.refl _ _) | (with_reducible assumption) | (with_reducible refine Below.alloc ?_ ?_ _) | (with_reducible refine Below.drew ?_) | (with_reducible refine below_dn ?_) | (with_reducible refine Below.setCell ?_ ?_ _) | (with_reducible exact Nat.le_refl _) | omega | (simp only [World.size_alloc, World.size_setCell, World.size_drew]; omega) | (simp; omega) | (simp; done))))
  go_upto_region 1 with (fail)
  try rw [hG]
  generalize hw0 : (w.alloc (.cells #[.int .i64 len, .slice a N c] 45)) = w0 at Kb B ⊢
  clear hw0 hG
  obtain ⟨bbc0, bbc1⟩ := twob Kb.out
  go_wp2_with fail
  refine (C.out _ (HP.out.mono B.out)).mono ?_
  rintro e w1 ⟨rfl, hb⟩
  replace Kb := Lib.hid (Kb.out.below hb Kb.out.lt)
  replace B := Lib.hid (B.out.trans (hb.mono B.out.size))
  clear bbc0 bbc1
  clear hb
  obtain ⟨bbc0, bbc1⟩ := twob Kb.out
  go_wp2_with fail
  refine (CO.out _ (HP.out.mono B.out)).mono ?_
  rintro e w2 ⟨rfl, hb⟩
  replace Kb := Lib.hid (Kb.out.below hb Kb.out.lt)
  replace B := Lib.hid (B.out.trans (hb.mono B.out.size))
  clear bbc0 bbc1
  clear hb
  obtain ⟨bbc0, bbc1⟩ := twob Kb.out
  obtain ⟨gx, hgx⟩ : ∃ G, w2.heap.size = G := ⟨_, rfl⟩
  have Kx := Lib.hid (show Blk (w2.alloc (.cells #[.int .i64 wi, .int .i64 x2, .int .i64 x3, .int .i64 x4] 89)) gx 89 #[.int .i64 wi, .int .i64 x2, .int .i64 x3, .int .i64 x4] from Blk.new' w2 _ _ _ hgx rfl)
  have Nbx := Lib.hid (show G < gx from by rw [← hgx]; exact Kb.out.lt)
  replace Kb := Lib.hid (Kb.out.alloc (.cells #[.int .i64 wi, .int .i64 x2, .int .i64 x3, .int .i64 x4] 89))
  have Lx := Lib.hid (show w.heap.size ≤ gx from by rw [← hgx]; exact B.out.size)
  replace B := Lib.hid (B.out.alloc B.out.size (.cells #[.int .i64 wi, .int .i64 x2, .int .i64 x3, .int .i64 x4] 89))
  go_upto_region 5 with (fail)
  try rw [hgx]
  generalize hw : w2.alloc (.cells #[.int .i64 wi, .int .i64 x2, .int .i64 x3, .int .i64 x4] 89) = w3 at Kb Kx  B ⊢
  clear bbc0 bbc1
  clear hw hgx
  obtain ⟨bbc0, bbc1⟩ := twob Kb.out
  obtain ⟨bxc0, bxc1, bxc2, bxc3⟩ := four Kx.out
  go_wp2
  go_ret
  exact ⟨rfl, B.out⟩
set_option maxRecDepth 100000 in
set_option maxHeartbeats 2000000 in
theorem backref_no (len : Int) (a : Option Addr) (c : Nat) (l : List Rw) (wi : Int) (w : World) (hp : RwA w a l) (no : ¬ OkP len l) (hm : l.length ≤ 9223372036854775807) :
    Calls Try.prog 40 #[.agg #[.int .i64 len, .slice a l.length c], .int .i64 wi] w fun e w' => e = .returned (.int .i64 0) ∧ Below w.heap.size w w' := by
  have HP := Lib.hid hp
  have C := Lib.hid (fun (X : World) (h : RwA X a l) => rvalidp_no no hm a c X h)
  obtain ⟨N, hN⟩ : ∃ N, l.length = N := ⟨_, rfl⟩
  simp only [hN] at C
  rw [hN]
  clear hp hN no hm
  go_enter Try.func40, Try.ntmps40
  obtain ⟨G, hG⟩ : ∃ G, w.heap.size = G := ⟨_, rfl⟩
  have HG := Lib.hid hG
  have Kb := Lib.hid (show Blk (w.alloc (.cells #[.int .i64 len, .slice a N c] 45)) (G) 45 #[.int .i64 len, .slice a N c] from Blk.new' _ _ _ _ hG rfl)
  have B := Lib.hid (show Below w.heap.size w (w.alloc (.cells #[.int .i64 len, .slice a N c] 45)) by (repeat' (first | (with_reducible exact Below.refl _ _) | (with_reducible assumption) | (with_reducible refine Below.alloc ?_ ?_ _) | (with_reducible refine Below.drew ?_) | (with_reducible refine below_dn ?_) | (with_reducible refine Below.setCell ?_ ?_ _) | (with_reducible exact Nat.le_refl _) | omega | (simp only [World.size_alloc, World.size_setCell, World.size_drew]; omega) | (simp; omega) | (simp; done))))
  go_upto_region 1 with (fail)
  try rw [hG]
  generalize hw0 : (w.alloc (.cells #[.int .i64 len, .slice a N c] 45)) = w0 at Kb B ⊢
  clear hw0 hG
  obtain ⟨bbc0, bbc1⟩ := twob Kb.out
  go_wp2_with fail
  refine (C.out _ (HP.out.mono B.out)).mono ?_
  rintro e w1 ⟨rfl, hb⟩
  replace Kb := Lib.hid (Kb.out.below hb Kb.out.lt)
  replace B := Lib.hid (B.out.trans (hb.mono B.out.size))
  clear bbc0 bbc1
  clear hb
  obtain ⟨bbc0, bbc1⟩ := twob Kb.out
  go_wp2
  go_ret
  exact ⟨rfl, B.out⟩
set_option maxRecDepth 100000 in
set_option maxHeartbeats 2000000 in
theorem recvref_arg (len : Int) (a : Option Addr) (c : Nat) (l : List Rw) (wi n : Int) (w : World) (hp : RwA w a l) (h : ¬ (OkP len l ∧ winOk wi ∧ 0 ≤ n ∧ n ≤ 1099511627776)) (hm : l.length ≤ 9223372036854775807) :
    Calls Try.prog 30 #[.agg #[.int .i64 len, .slice a l.length c], .int .i64 wi, .int .i64 n] w fun e w' => e = .returned (.agg #[.int .i64 0, .slice none 0 0, .int .i64 1]) ∧ Below w.heap.size w w' := by
  have HP := Lib.hid hp
  obtain ⟨N, hN⟩ : ∃ N, l.length = N := ⟨_, rfl⟩
  by_cases ok : OkP len l
  · have C := Lib.hid (fun (X : World) (h : RwA X a l) => rvalidp_yes ok a c X h)
    simp only [hN] at C
    by_cases p1 : winOk wi
    · have C1 := Lib.hid (fun W => rwin_yes p1 W)
      have h3 : ¬ (0 ≤ n ∧ n ≤ 1099511627776) := fun q => h ⟨ok, p1, q.1, q.2⟩
      rw [hN]
      clear h ok p1 hp hN hm
      by_cases h1 : n < 0
      · have t1 : decide (n < 0) = true := decide_eq_true (by omega)
        clear h1 h3
        go_enter Try.func30, Try.ntmps30
        obtain ⟨G, hG⟩ : ∃ G, w.heap.size = G := ⟨_, rfl⟩
        have HG := Lib.hid hG
        have Kb := Lib.hid (show Blk ((w.alloc (.cells #[.int .i64 len, .slice a N c] 45)).alloc (.cells #[.int .i64 0, .slice none 0 0, .int .i64 0] 51)) (G) 45 #[.int .i64 len, .slice a N c] from (Blk.new' _ _ _ _ hG rfl).alloc _)
        have Kr := Lib.hid (show Blk ((w.alloc (.cells #[.int .i64 len, .slice a N c] 45)).alloc (.cells #[.int .i64 0, .slice none 0 0, .int .i64 0] 51)) (G + 1) 51 #[.int .i64 0, .slice none 0 0, .int .i64 0] from Blk.new' _ _ _ _ (by rw [World.size_alloc, hG]) rfl)
        have B := Lib.hid (show Below w.heap.size w ((w.alloc (.cells #[.int .i64 len, .slice a N c] 45)).alloc (.cells #[.int .i64 0, .slice none 0 0, .int .i64 0] 51)) by (repeat' (first | (with_reducible exact Below.refl _ _) | (with_reducible assumption) | (with_reducible refine Below.alloc ?_ ?_ _) | (with_reducible refine Below.drew ?_) | (with_reducible refine below_dn ?_) | (with_reducible refine Below.setCell ?_ ?_ _) | (with_reducible exact Nat.le_refl _) | omega | (simp only [World.size_alloc, World.size_setCell, World.size_drew]; omega) | (simp; omega) | (simp; done))))
        go_upto_region 1 with (fail)
        try rw [hG]
        generalize hw0 : ((w.alloc (.cells #[.int .i64 len, .slice a N c] 45)).alloc (.cells #[.int .i64 0, .slice none 0 0, .int .i64 0] 51)) = w0 at Kb Kr B ⊢
        clear hw0 hG
        obtain ⟨bbc0, bbc1⟩ := twob Kb.out
        obtain ⟨brc0, brc1, brc2⟩ := three Kr.out
        go_wp2_with fail
        refine (C.out _ (HP.out.mono B.out)).mono ?_
        rintro e w1 ⟨rfl, hb⟩
        replace Kb := Lib.hid (Kb.out.below hb Kb.out.lt)
        replace Kr := Lib.hid (Kr.out.below hb Kr.out.lt)
        replace B := Lib.hid (B.out.trans (hb.mono B.out.size))
        clear bbc0 bbc1 brc0 brc1 brc2
        clear hb
        obtain ⟨bbc0, bbc1⟩ := twob Kb.out
        obtain ⟨brc0, brc1, brc2⟩ := three Kr.out
        go_wp2_with fail
        refine (C1.out _).mono ?_
        rintro e wz ⟨rfl, rfl⟩
        clear bbc0 bbc1 brc0 brc1 brc2
        obtain ⟨bbc0, bbc1⟩ := twob Kb.out
        obtain ⟨brc0, brc1, brc2⟩ := three Kr.out
        have fzr := fun q => Kr.out.frozen q
        go_wp2
        have K9 := Lib.hid (Kr.out.set3 (.int .i64 0) (.slice none 0 0) (.int .i64 1))
        have B9 := (((B.out.setCell (p := ⟨G + 1, 0, none⟩) (show w.heap.size ≤ G + 1 by have := HG.out; omega) (.int .i64 0)).setCell (p := ⟨G + 1, 1, none⟩) (show w.heap.size ≤ G + 1 by have := HG.out; omega) (.slice none 0 0)).setCell (p := ⟨G + 1, 2, none⟩) (show w.heap.size ≤ G + 1 by have := HG.out; omega) (.int .i64 1))
        simp only [set3] at K9
        generalize hw2 : (((w1.setCell ⟨G + 1, 0, none⟩ (.int .i64 0)).setCell ⟨G + 1, 1, none⟩ (.slice none 0 0)).setCell ⟨G + 1, 2, none⟩ (.int .i64 1)) = w9 at K9 B9 ⊢
        clear bbc0 bbc1 brc0 brc1 brc2 fzr
        clear hw2
        obtain ⟨d0, d1, d2⟩ := three K9.out
        refine bodyPost_ret (by simp [results, Try.results30, go_sem, d0, d1, d2]; try rfl) rfl ?_
        exact ⟨rfl, B9⟩
      · have t1 : decide (n < 0) = false := decide_eq_false (by omega)
        have t2 : decide (1099511627776 < n) = true := decide_eq_true (by omega)
        clear h1 h3
        go_enter Try.func30, Try.ntmps30
        obtain ⟨G, hG⟩ : ∃ G, w.heap.size = G := ⟨_, rfl⟩
        have HG := Lib.hid hG
        have Kb := Lib.hid (show Blk ((w.alloc (.cells #[.int .i64 len, .slice a N c] 45)).alloc (.cells #[.int .i64 0, .slice none 0 0, .int .i64 0] 51)) (G) 45 #[.int .i64 len, .slice a N c] from (Blk.new' _ _ _ _ hG rfl).alloc _)
        have Kr := Lib.hid (show Blk ((w.alloc (.cells #[.int .i64 len, .slice a N c] 45)).alloc (.cells #[.int .i64 0, .slice none 0 0, .int .i64 0] 51)) (G + 1) 51 #[.int .i64 0, .slice none 0 0, .int .i64 0] from Blk.new' _ _ _ _ (by rw [World.size_alloc, hG]) rfl)
        have B := Lib.hid (show Below w.heap.size w ((w.alloc (.cells #[.int .i64 len, .slice a N c] 45)).alloc (.cells #[.int .i64 0, .slice none 0 0, .int .i64 0] 51)) by (repeat' (first | (with_reducible exact Below.refl _ _) | (with_reducible assumption) | (with_reducible refine Below.alloc ?_ ?_ _) | (with_reducible refine Below.drew ?_) | (with_reducible refine below_dn ?_) | (with_reducible refine Below.setCell ?_ ?_ _) | (with_reducible exact Nat.le_refl _) | omega | (simp only [World.size_alloc, World.size_setCell, World.size_drew]; omega) | (simp; omega) | (simp; done))))
        go_upto_region 1 with (fail)
        try rw [hG]
        generalize hw0 : ((w.alloc (.cells #[.int .i64 len, .slice a N c] 45)).alloc (.cells #[.int .i64 0, .slice none 0 0, .int .i64 0] 51)) = w0 at Kb Kr B ⊢
        clear hw0 hG
        obtain ⟨bbc0, bbc1⟩ := twob Kb.out
        obtain ⟨brc0, brc1, brc2⟩ := three Kr.out
        go_wp2_with fail
        refine (C.out _ (HP.out.mono B.out)).mono ?_
        rintro e w1 ⟨rfl, hb⟩
        replace Kb := Lib.hid (Kb.out.below hb Kb.out.lt)
        replace Kr := Lib.hid (Kr.out.below hb Kr.out.lt)
        replace B := Lib.hid (B.out.trans (hb.mono B.out.size))
        clear bbc0 bbc1 brc0 brc1 brc2
        clear hb
        obtain ⟨bbc0, bbc1⟩ := twob Kb.out
        obtain ⟨brc0, brc1, brc2⟩ := three Kr.out
        go_wp2_with fail
        refine (C1.out _).mono ?_
        rintro e wz ⟨rfl, rfl⟩
        clear bbc0 bbc1 brc0 brc1 brc2
        obtain ⟨bbc0, bbc1⟩ := twob Kb.out
        obtain ⟨brc0, brc1, brc2⟩ := three Kr.out
        have fzr := fun q => Kr.out.frozen q
        go_wp2
        have K9 := Lib.hid (Kr.out.set3 (.int .i64 0) (.slice none 0 0) (.int .i64 1))
        have B9 := (((B.out.setCell (p := ⟨G + 1, 0, none⟩) (show w.heap.size ≤ G + 1 by have := HG.out; omega) (.int .i64 0)).setCell (p := ⟨G + 1, 1, none⟩) (show w.heap.size ≤ G + 1 by have := HG.out; omega) (.slice none 0 0)).setCell (p := ⟨G + 1, 2, none⟩) (show w.heap.size ≤ G + 1 by have := HG.out; omega) (.int .i64 1))
        simp only [set3] at K9
        generalize hw2 : (((w1.setCell ⟨G + 1, 0, none⟩ (.int .i64 0)).setCell ⟨G + 1, 1, none⟩ (.slice none 0 0)).setCell ⟨G + 1, 2, none⟩ (.int .i64 1)) = w9 at K9 B9 ⊢
        clear bbc0 bbc1 brc0 brc1 brc2 fzr
        clear hw2
        obtain ⟨d0, d1, d2⟩ := three K9.out
        refine bodyPost_ret (by simp [results, Try.results30, go_sem, d0, d1, d2]; try rfl) rfl ?_
        exact ⟨rfl, B9⟩
    · have C1 := Lib.hid (fun W => rwin_no p1 W)
      rw [hN]
      clear h ok p1 hp hN hm
      go_enter Try.func30, Try.ntmps30
      obtain ⟨G, hG⟩ : ∃ G, w.heap.size = G := ⟨_, rfl⟩
      have HG := Lib.hid hG
      have Kb := Lib.hid (show Blk ((w.alloc (.cells #[.int .i64 len, .slice a N c] 45)).alloc (.cells #[.int .i64 0, .slice none 0 0, .int .i64 0] 51)) (G) 45 #[.int .i64 len, .slice a N c] from (Blk.new' _ _ _ _ hG rfl).alloc _)
      have Kr := Lib.hid (show Blk ((w.alloc (.cells #[.int .i64 len, .slice a N c] 45)).alloc (.cells #[.int .i64 0, .slice none 0 0, .int .i64 0] 51)) (G + 1) 51 #[.int .i64 0, .slice none 0 0, .int .i64 0] from Blk.new' _ _ _ _ (by rw [World.size_alloc, hG]) rfl)
      have B := Lib.hid (show Below w.heap.size w ((w.alloc (.cells #[.int .i64 len, .slice a N c] 45)).alloc (.cells #[.int .i64 0, .slice none 0 0, .int .i64 0] 51)) by (repeat' (first | (with_reducible exact Below.refl _ _) | (with_reducible assumption) | (with_reducible refine Below.alloc ?_ ?_ _) | (with_reducible refine Below.drew ?_) | (with_reducible refine below_dn ?_) | (with_reducible refine Below.setCell ?_ ?_ _) | (with_reducible exact Nat.le_refl _) | omega | (simp only [World.size_alloc, World.size_setCell, World.size_drew]; omega) | (simp; omega) | (simp; done))))
      go_upto_region 1 with (fail)
      try rw [hG]
      generalize hw0 : ((w.alloc (.cells #[.int .i64 len, .slice a N c] 45)).alloc (.cells #[.int .i64 0, .slice none 0 0, .int .i64 0] 51)) = w0 at Kb Kr B ⊢
      clear hw0 hG
      obtain ⟨bbc0, bbc1⟩ := twob Kb.out
      obtain ⟨brc0, brc1, brc2⟩ := three Kr.out
      go_wp2_with fail
      refine (C.out _ (HP.out.mono B.out)).mono ?_
      rintro e w1 ⟨rfl, hb⟩
      replace Kb := Lib.hid (Kb.out.below hb Kb.out.lt)
      replace Kr := Lib.hid (Kr.out.below hb Kr.out.lt)
      replace B := Lib.hid (B.out.trans (hb.mono B.out.size))
      clear bbc0 bbc1 brc0 brc1 brc2
      clear hb
      obtain ⟨bbc0, bbc1⟩ := twob Kb.out
      obtain ⟨brc0, brc1, brc2⟩ := three Kr.out
      go_wp2_with fail
      refine (C1.out _).mono ?_
      rintro e wz ⟨rfl, rfl⟩
      clear bbc0 bbc1 brc0 brc1 brc2
      obtain ⟨bbc0, bbc1⟩ := twob Kb.out
      obtain ⟨brc0, brc1, brc2⟩ := three Kr.out
      have fzr := fun q => Kr.out.frozen q
      go_wp2
      have K9 := Lib.hid (Kr.out.set3 (.int .i64 0) (.slice none 0 0) (.int .i64 1))
      have B9 := (((B.out.setCell (p := ⟨G + 1, 0, none⟩) (show w.heap.size ≤ G + 1 by have := HG.out; omega) (.int .i64 0)).setCell (p := ⟨G + 1, 1, none⟩) (show w.heap.size ≤ G + 1 by have := HG.out; omega) (.slice none 0 0)).setCell (p := ⟨G + 1, 2, none⟩) (show w.heap.size ≤ G + 1 by have := HG.out; omega) (.int .i64 1))
      simp only [set3] at K9
      generalize hw2 : (((w1.setCell ⟨G + 1, 0, none⟩ (.int .i64 0)).setCell ⟨G + 1, 1, none⟩ (.slice none 0 0)).setCell ⟨G + 1, 2, none⟩ (.int .i64 1)) = w9 at K9 B9 ⊢
      clear bbc0 bbc1 brc0 brc1 brc2 fzr
      clear hw2
      obtain ⟨d0, d1, d2⟩ := three K9.out
      refine bodyPost_ret (by simp [results, Try.results30, go_sem, d0, d1, d2]; try rfl) rfl ?_
      exact ⟨rfl, B9⟩
  · have C := Lib.hid (fun (X : World) (h : RwA X a l) => rvalidp_no ok hm a c X h)
    simp only [hN] at C
    rw [hN]
    clear h ok hp hN hm
    go_enter Try.func30, Try.ntmps30
    obtain ⟨G, hG⟩ : ∃ G, w.heap.size = G := ⟨_, rfl⟩
    have HG := Lib.hid hG
    have Kb := Lib.hid (show Blk ((w.alloc (.cells #[.int .i64 len, .slice a N c] 45)).alloc (.cells #[.int .i64 0, .slice none 0 0, .int .i64 0] 51)) (G) 45 #[.int .i64 len, .slice a N c] from (Blk.new' _ _ _ _ hG rfl).alloc _)
    have Kr := Lib.hid (show Blk ((w.alloc (.cells #[.int .i64 len, .slice a N c] 45)).alloc (.cells #[.int .i64 0, .slice none 0 0, .int .i64 0] 51)) (G + 1) 51 #[.int .i64 0, .slice none 0 0, .int .i64 0] from Blk.new' _ _ _ _ (by rw [World.size_alloc, hG]) rfl)
    have B := Lib.hid (show Below w.heap.size w ((w.alloc (.cells #[.int .i64 len, .slice a N c] 45)).alloc (.cells #[.int .i64 0, .slice none 0 0, .int .i64 0] 51)) by (repeat' (first | (with_reducible exact Below.refl _ _) | (with_reducible assumption) | (with_reducible refine Below.alloc ?_ ?_ _) | (with_reducible refine Below.drew ?_) | (with_reducible refine below_dn ?_) | (with_reducible refine Below.setCell ?_ ?_ _) | (with_reducible exact Nat.le_refl _) | omega | (simp only [World.size_alloc, World.size_setCell, World.size_drew]; omega) | (simp; omega) | (simp; done))))
    go_upto_region 1 with (fail)
    try rw [hG]
    generalize hw0 : ((w.alloc (.cells #[.int .i64 len, .slice a N c] 45)).alloc (.cells #[.int .i64 0, .slice none 0 0, .int .i64 0] 51)) = w0 at Kb Kr B ⊢
    clear hw0 hG
    obtain ⟨bbc0, bbc1⟩ := twob Kb.out
    obtain ⟨brc0, brc1, brc2⟩ := three Kr.out
    go_wp2_with fail
    refine (C.out _ (HP.out.mono B.out)).mono ?_
    rintro e w1 ⟨rfl, hb⟩
    replace Kb := Lib.hid (Kb.out.below hb Kb.out.lt)
    replace Kr := Lib.hid (Kr.out.below hb Kr.out.lt)
    replace B := Lib.hid (B.out.trans (hb.mono B.out.size))
    clear bbc0 bbc1 brc0 brc1 brc2
    clear hb
    obtain ⟨bbc0, bbc1⟩ := twob Kb.out
    obtain ⟨brc0, brc1, brc2⟩ := three Kr.out
    clear bbc0 bbc1 brc0 brc1 brc2
    obtain ⟨bbc0, bbc1⟩ := twob Kb.out
    obtain ⟨brc0, brc1, brc2⟩ := three Kr.out
    have fzr := fun q => Kr.out.frozen q
    go_wp2
    have K9 := Lib.hid (Kr.out.set3 (.int .i64 0) (.slice none 0 0) (.int .i64 1))
    have B9 := (((B.out.setCell (p := ⟨G + 1, 0, none⟩) (show w.heap.size ≤ G + 1 by have := HG.out; omega) (.int .i64 0)).setCell (p := ⟨G + 1, 1, none⟩) (show w.heap.size ≤ G + 1 by have := HG.out; omega) (.slice none 0 0)).setCell (p := ⟨G + 1, 2, none⟩) (show w.heap.size ≤ G + 1 by have := HG.out; omega) (.int .i64 1))
    simp only [set3] at K9
    generalize hw2 : (((w1.setCell ⟨G + 1, 0, none⟩ (.int .i64 0)).setCell ⟨G + 1, 1, none⟩ (.slice none 0 0)).setCell ⟨G + 1, 2, none⟩ (.int .i64 1)) = w9 at K9 B9 ⊢
    clear bbc0 bbc1 brc0 brc1 brc2 fzr
    clear hw2
    obtain ⟨d0, d1, d2⟩ := three K9.out
    refine bodyPost_ret (by simp [results, Try.results30, go_sem, d0, d1, d2]; try rfl) rfl ?_
    exact ⟨rfl, B9⟩
set_option maxRecDepth 100000 in
set_option maxHeartbeats 2000000 in
theorem recvref_old (len : Int) (a : Option Addr) (c : Nat) (l : List Rw) (wi n : Int) (w : World) (hp : RwA w a l) (ok : OkP len l) (p1 : winOk wi) (p2 : 0 ≤ n ∧ n ≤ 1099511627776) (h : n ≤ (coinL l wi).2.1) :
    Calls Try.prog 30 #[.agg #[.int .i64 len, .slice a l.length c], .int .i64 wi, .int .i64 n] w fun e w' => (∃ a' c', e = .returned (.agg #[.int .i64 len, .slice a' (recvL l wi n).length c', .int .i64 0]) ∧ RwA w' a' (recvL l wi n)) ∧ Below w.heap.size w w' := by
  have HP := Lib.hid hp
  have hm := ok.head.2
  have C := Lib.hid (fun (X : World) (h : RwA X a l) => rvalidp_yes ok a c X h)
  have C1 := Lib.hid (fun W => rwin_yes p1 W)
  have t1 : decide (n < 0) = false := decide_eq_false (by omega)
  have t2 : decide (1099511627776 < n) = false := decide_eq_false (by omega)
  have CO := Lib.hid (fun (X : World) (h : RwA X a l) => coinref_any len a c l wi X h ok.ord (by have := ok.head.2; omega))
  have ck := coinL_ok ok wi
  obtain ⟨x2, x3, x4, hx⟩ := coinL_is l wi
  obtain ⟨hh, hhh⟩ : ∃ z, hasC (cW wi) l = z := ⟨_, rfl⟩
  simp only [hx, hhh, encR] at CO
  rw [hx] at ck
  simp only at ck
  obtain ⟨⟨k1, k2⟩, ⟨k3, k4⟩, k5, k6⟩ := ck
  obtain ⟨N, hN⟩ : ∃ N, l.length = N := ⟨_, rfl⟩
  simp only [hN] at C CO
  rw [recv_old h, hN]
  rw [hx] at h
  simp only at h
  have s1 : decide (n ≤ x2) = true := decide_eq_true h
  clear h hx hhh hN
  clear k1 k2 k3 k4 k5 k6 hp ok p1 p2 hm
  go_enter Try.func30, Try.ntmps30
  obtain ⟨G, hG⟩ : ∃ G, w.heap.size = G := ⟨_, rfl⟩
  have HG := Lib.hid hG
  have Kb := Lib.hid (show Blk ((w.alloc (.cells #[.int .i64 len, .slice a N c] 45)).alloc (.cells #[.int .i64 0, .slice none 0 0, .int .i64 0] 51)) (G) 45 #[.int .i64 len, .slice a N c] from (Blk.new' _ _ _ _ hG rfl).alloc _)
  have Kr := Lib.hid (show Blk ((w.alloc (.cells #[.int .i64 len, .slice a N c] 45)).alloc (.cells #[.int .i64 0, .slice none 0 0, .int .i64 0] 51)) (G + 1) 51 #[.int .i64 0, .slice none 0 0, .int .i64 0] from Blk.new' _ _ _ _ (by rw [World.size_alloc, hG]) rfl)
  have B := Lib.hid (show Below w.heap.size w ((w.alloc (.cells #[.int .i64 len, .slice a N c] 45)).alloc (.cells #[.int .i64 0, .slice none 0 0, .int .i64 0] 51)) by (repeat' (first | (with_reducible exact Below.refl _ _) | (with_reducible assumption) | (with_reducible refine Below.alloc ?_ ?_ _) | (with_reducible refine Below.drew ?_) | (with_reducible refine below_dn ?_) | (with_reducible refine Below.setCell ?_ ?_ _) | (with_reducible exact Nat.le_refl _) | omega | (simp only [World.size_alloc, World.size_setCell, World.size_drew]; omega) | (simp; omega) | (simp; done))))
  go_upto_region 1 with (fail)
  try rw [hG]
  generalize hw0 : ((w.alloc (.cells #[.int .i64 len, .slice a N c] 45)).alloc (.cells #[.int .i64 0, .slice none 0 0, .int .i64 0] 51)) = w0 at Kb Kr B ⊢
  clear hw0 hG
  obtain ⟨bbc0, bbc1⟩ := twob Kb.out
  obtain ⟨brc0, brc1, brc2⟩ := three Kr.out
  go_wp2_with fail
  refine (C.out _ (HP.out.mono B.out)).mono ?_
  rintro e w1 ⟨rfl, hb⟩
  replace Kb := Lib.hid (Kb.out.below hb Kb.out.lt)
  replace Kr := Lib.hid (Kr.out.below hb Kr.out.lt)
  replace B := Lib.hid (B.out.trans (hb.mono B.out.size))
  clear bbc0 bbc1 brc0 brc1 brc2
  clear hb
  obtain ⟨bbc0, bbc1⟩ := twob Kb.out
  obtain ⟨brc0, brc1, brc2⟩ := three Kr.out
  go_wp2_with fail
  refine (C1.out _).mono ?_
  rintro e wz ⟨rfl, rfl⟩
  go_wp2_with fail
  refine (CO.out _ (HP.out.mono B.out)).mono ?_
  rintro e w2 ⟨rfl, hb⟩
  replace Kb := Lib.hid (Kb.out.below hb Kb.out.lt)
  replace Kr := Lib.hid (Kr.out.below hb Kr.out.lt)
  replace B := Lib.hid (B.out.trans (hb.mono B.out.size))
  clear bbc0 bbc1 brc0 brc1 brc2
  clear hb
  obtain ⟨bbc0, bbc1⟩ := twob Kb.out
  obtain ⟨brc0, brc1, brc2⟩ := three Kr.out
  obtain ⟨gx, hgx⟩ : ∃ G, w2.heap.size = G := ⟨_, rfl⟩
  have Kx := Lib.hid (show Blk (w2.alloc (.cells #[.int .i64 wi, .int .i64 x2, .int .i64 x3, .int .i64 x4] 89)) gx 89 #[.int .i64 wi, .int .i64 x2, .int .i64 x3, .int .i64 x4] from Blk.new' w2 _ _ _ hgx rfl)
  have Nbx := Lib.hid (show G < gx from by rw [← hgx]; exact Kb.out.lt)
  replace Kb := Lib.hid (Kb.out.alloc (.cells #[.int .i64 wi, .int .i64 x2, .int .i64 x3, .int .i64 x4] 89))
  have Nrx := Lib.hid (show G + 1 < gx from by rw [← hgx]; exact Kr.out.lt)
  replace Kr := Lib.hid (Kr.out.alloc (.cells #[.int .i64 wi, .int .i64 x2, .int .i64 x3, .int .i64 x4] 89))
  have Lx := Lib.hid (show w.heap.size ≤ gx from by rw [← hgx]; exact B.out.size)
  replace B := Lib.hid (B.out.alloc B.out.size (.cells #[.int .i64 wi, .int .i64 x2, .int .i64 x3, .int .i64 x4] 89))
  go_upto_region 4 with (fail)
  try rw [hgx]
  generalize hw : w2.alloc (.cells #[.int .i64 wi, .int .i64 x2, .int .i64 x3, .int .i64 x4] 89) = w3 at Kb Kr Kx  B ⊢
  clear bbc0 bbc1 brc0 brc1 brc2
  clear hw hgx
  obtain ⟨bbc0, bbc1⟩ := twob Kb.out
  obtain ⟨brc0, brc1, brc2⟩ := three Kr.out
  obtain ⟨bxc0, bxc1, bxc2, bxc3⟩ := four Kx.out
  clear bbc0 bbc1 brc0 brc1 brc2 bxc0 bxc1 bxc2 bxc3
  obtain ⟨bbc0, bbc1⟩ := twob Kb.out
  obtain ⟨brc0, brc1, brc2⟩ := three Kr.out
  obtain ⟨bxc0, bxc1, bxc2, bxc3⟩ := four Kx.out
  have fzr := fun q => Kr.out.frozen q
  go_wp2
  have K9 := Lib.hid (Kr.out.set3 (.int .i64 len) (.slice a N c) (.int .i64 0))
  have B9 := (((B.out.setCell (p := ⟨G + 1, 0, none⟩) (show w.heap.size ≤ G + 1 by have := HG.out; omega) (.int .i64 len)).setCell (p := ⟨G + 1, 1, none⟩) (show w.heap.size ≤ G + 1 by have := HG.out; omega) (.slice a N c)).setCell (p := ⟨G + 1, 2, none⟩) (show w.heap.size ≤ G + 1 by have := HG.out; omega) (.int .i64 0))
  simp only [set3] at K9
  generalize hw2 : (((w3.setCell ⟨G + 1, 0, none⟩ (.int .i64 len)).setCell ⟨G + 1, 1, none⟩ (.slice a N c)).setCell ⟨G + 1, 2, none⟩ (.int .i64 0)) = w9 at K9 B9 ⊢
  clear bbc0 bbc1 brc0 brc1 brc2 bxc0 bxc1 bxc2 bxc3 fzr
  clear hw2
  obtain ⟨d0, d1, d2⟩ := three K9.out
  refine bodyPost_ret (by simp [results, Try.results30, go_sem, d0, d1, d2]; try rfl) rfl ?_
  exact ⟨⟨a, c, rfl, HP.out.mono B9⟩, B9⟩
set_option maxRecDepth 100000 in
set_option maxHeartbeats 2000000 in
theorem recvref_full (len : Int) (a : Option Addr) (c : Nat) (l : List Rw) (wi n : Int) (w : World) (hp : RwA w a l) (ok : OkP len l) (p1 : winOk wi) (p2 : 0 ≤ n ∧ n ≤ 1099511627776) (h : (coinL l wi).2.1 < n) (h2 : hasC (cW wi) l = false) (h3 : 10000 ≤ l.length) :
    Calls Try.prog 30 #[.agg #[.int .i64 len, .slice a l.length c], .int .i64 wi, .int .i64 n] w fun e w' => e = .returned (.agg #[.int .i64 0, .slice none 0 0, .int .i64 2]) ∧ Below w.heap.size w w' := by
  have HP := Lib.hid hp
  have hm := ok.head.2
  have C := Lib.hid (fun (X : World) (h : RwA X a l) => rvalidp_yes ok a c X h)
  have C1 := Lib.hid (fun W => rwin_yes p1 W)
  have t1 : decide (n < 0) = false := decide_eq_false (by omega)
  have t2 : decide (1099511627776 < n) = false := decide_eq_false (by omega)
  have CO := Lib.hid (fun (X : World) (h : RwA X a l) => coinref_any len a c l wi X h ok.ord (by have := ok.head.2; omega))
  have ck := coinL_ok ok wi
  obtain ⟨x2, x3, x4, hx⟩ := coinL_is l wi
  obtain ⟨hh, hhh⟩ : ∃ z, hasC (cW wi) l = z := ⟨_, rfl⟩
  simp only [hx, hhh, encR] at CO
  rw [hx] at ck
  simp only at ck
  obtain ⟨⟨k1, k2⟩, ⟨k3, k4⟩, k5, k6⟩ := ck
  obtain ⟨N, hN⟩ : ∃ N, l.length = N := ⟨_, rfl⟩
  simp only [hN] at C CO
  rw [hx] at h
  simp only at h
  rw [hN] at h3 hm ⊢
  obtain rfl : hh = false := by rw [← hhh, h2]
  have s1 : decide (n ≤ x2) = false := decide_eq_false (by omega)
  have s2 : ((N : Int) == 10000) = true := by simp; omega
  clear h h2 h3 hx hhh hN
  clear k1 k2 k3 k4 k5 k6 hp ok p1 p2 hm
  go_enter Try.func30, Try.ntmps30
  obtain ⟨G, hG⟩ : ∃ G, w.heap.size = G := ⟨_, rfl⟩
  have HG := Lib.hid hG
  have Kb := Lib.hid (show Blk ((w.alloc (.cells #[.int .i64 len, .slice a N c] 45)).alloc (.cells #[.int .i64 0, .slice none 0 0, .int .i64 0] 51)) (G) 45 #[.int .i64 len, .slice a N c] from (Blk.new' _ _ _ _ hG rfl).alloc _)
  have Kr := Lib.hid (show Blk ((w.alloc (.cells #[.int .i64 len, .slice a N c] 45)).alloc (.cells #[.int .i64 0, .slice none 0 0, .int .i64 0] 51)) (G + 1) 51 #[.int .i64 0, .slice none 0 0, .int .i64 0] from Blk.new' _ _ _ _ (by rw [World.size_alloc, hG]) rfl)
  have B := Lib.hid (show Below w.heap.size w ((w.alloc (.cells #[.int .i64 len, .slice a N c] 45)).alloc (.cells #[.int .i64 0, .slice none 0 0, .int .i64 0] 51)) by (repeat' (first | (with_reducible exact Below.refl _ _) | (with_reducible assumption) | (with_reducible refine Below.alloc ?_ ?_ _) | (with_reducible refine Below.drew ?_) | (with_reducible refine below_dn ?_) | (with_reducible refine Below.setCell ?_ ?_ _) | (with_reducible exact Nat.le_refl _) | omega | (simp only [World.size_alloc, World.size_setCell, World.size_drew]; omega) | (simp; omega) | (simp; done))))
  go_upto_region 1 with (fail)
  try rw [hG]
  generalize hw0 : ((w.alloc (.cells #[.int .i64 len, .slice a N c] 45)).alloc (.cells #[.int .i64 0, .slice none 0 0, .int .i64 0] 51)) = w0 at Kb Kr B ⊢
  clear hw0 hG
  obtain ⟨bbc0, bbc1⟩ := twob Kb.out
  obtain ⟨brc0, brc1, brc2⟩ := three Kr.out
  go_wp2_with fail
  refine (C.out _ (HP.out.mono B.out)).mono ?_
  rintro e w1 ⟨rfl, hb⟩
  replace Kb := Lib.hid (Kb.out.below hb Kb.out.lt)
  replace Kr := Lib.hid (Kr.out.below hb Kr.out.lt)
  replace B := Lib.hid (B.out.trans (hb.mono B.out.size))
  clear bbc0 bbc1 brc0 brc1 brc2
  clear hb
  obtain ⟨bbc0, bbc1⟩ := twob Kb.out
  obtain ⟨brc0, brc1, brc2⟩ := three Kr.out
  go_wp2_with fail
  refine (C1.out _).mono ?_
  rintro e wz ⟨rfl, rfl⟩
  go_wp2_with fail
  refine (CO.out _ (HP.out.mono B.out)).mono ?_
  rintro e w2 ⟨rfl, hb⟩
  replace Kb := Lib.hid (Kb.out.below hb Kb.out.lt)
  replace Kr := Lib.hid (Kr.out.below hb Kr.out.lt)
  replace B := Lib.hid (B.out.trans (hb.mono B.out.size))
  clear bbc0 bbc1 brc0 brc1 brc2
  clear hb
  obtain ⟨bbc0, bbc1⟩ := twob Kb.out
  obtain ⟨brc0, brc1, brc2⟩ := three Kr.out
  obtain ⟨gx, hgx⟩ : ∃ G, w2.heap.size = G := ⟨_, rfl⟩
  have Kx := Lib.hid (show Blk (w2.alloc (.cells #[.int .i64 wi, .int .i64 x2, .int .i64 x3, .int .i64 x4] 89)) gx 89 #[.int .i64 wi, .int .i64 x2, .int .i64 x3, .int .i64 x4] from Blk.new' w2 _ _ _ hgx rfl)
  have Nbx := Lib.hid (show G < gx from by rw [← hgx]; exact Kb.out.lt)
  replace Kb := Lib.hid (Kb.out.alloc (.cells #[.int .i64 wi, .int .i64 x2, .int .i64 x3, .int .i64 x4] 89))
  have Nrx := Lib.hid (show G + 1 < gx from by rw [← hgx]; exact Kr.out.lt)
  replace Kr := Lib.hid (Kr.out.alloc (.cells #[.int .i64 wi, .int .i64 x2, .int .i64 x3, .int .i64 x4] 89))
  have Lx := Lib.hid (show w.heap.size ≤ gx from by rw [← hgx]; exact B.out.size)
  replace B := Lib.hid (B.out.alloc B.out.size (.cells #[.int .i64 wi, .int .i64 x2, .int .i64 x3, .int .i64 x4] 89))
  go_upto_region 4 with (fail)
  try rw [hgx]
  generalize hw : w2.alloc (.cells #[.int .i64 wi, .int .i64 x2, .int .i64 x3, .int .i64 x4] 89) = w3 at Kb Kr Kx  B ⊢
  clear bbc0 bbc1 brc0 brc1 brc2
  clear hw hgx
  obtain ⟨bbc0, bbc1⟩ := twob Kb.out
  obtain ⟨brc0, brc1, brc2⟩ := three Kr.out
  obtain ⟨bxc0, bxc1, bxc2, bxc3⟩ := four Kx.out
  clear bbc0 bbc1 brc0 brc1 brc2 bxc0 bxc1 bxc2 bxc3
  obtain ⟨bbc0, bbc1⟩ := twob Kb.out
  obtain ⟨brc0, brc1, brc2⟩ := three Kr.out
  obtain ⟨bxc0, bxc1, bxc2, bxc3⟩ := four Kx.out
  have fzr := fun q => Kr.out.frozen q
  go_wp2
  have K9 := Lib.hid (Kr.out.set3 (.int .i64 0) (.slice none 0 0) (.int .i64 2))
  have B9 := (((B.out.setCell (p := ⟨G + 1, 0, none⟩) (show w.heap.size ≤ G + 1 by have := HG.out; omega) (.int .i64 0)).setCell (p := ⟨G + 1, 1, none⟩) (show w.heap.size ≤ G + 1 by have := HG.out; omega) (.slice none 0 0)).setCell (p := ⟨G + 1, 2, none⟩) (show w.heap.size ≤ G + 1 by have := HG.out; omega) (.int .i64 2))
  simp only [set3] at K9
  generalize hw2 : (((w3.setCell ⟨G + 1, 0, none⟩ (.int .i64 0)).setCell ⟨G + 1, 1, none⟩ (.slice none 0 0)).setCell ⟨G + 1, 2, none⟩ (.int .i64 2)) = w9 at K9 B9 ⊢
  clear bbc0 bbc1 brc0 brc1 brc2 bxc0 bxc1 bxc2 bxc3 fzr
  clear hw2
  obtain ⟨d0, d1, d2⟩ := three K9.out
  refine bodyPost_ret (by simp [results, Try.results30, go_sem, d0, d1, d2]; try rfl) rfl ?_
  exact ⟨rfl, B9⟩
set_option maxRecDepth 100000 in
set_option maxHeartbeats 2000000 in
theorem recvref_new (len : Int) (a : Option Addr) (c : Nat) (l : List Rw) (wi n : Int) (w : World) (hp : RwA w a l) (ok : OkP len l) (p1 : winOk wi) (p2 : 0 ≤ n ∧ n ≤ 1099511627776) (h : (coinL l wi).2.1 < n) (h2 : hasC (cW wi) l = true ∨ l.length < 10000) :
    Calls Try.prog 30 #[.agg #[.int .i64 len, .slice a l.length c], .int .i64 wi, .int .i64 n] w fun e w' => (∃ a' c', e = .returned (.agg #[.int .i64 len, .slice a' (recvL l wi n).length c', .int .i64 0]) ∧ RwA w' a' (recvL l wi n)) ∧ Below w.heap.size w w' := by
  have HP := Lib.hid hp
  have hm := ok.head.2
  have C := Lib.hid (fun (X : World) (h : RwA X a l) => rvalidp_yes ok a c X h)
  have C1 := Lib.hid (fun W => rwin_yes p1 W)
  have t1 : decide (n < 0) = false := decide_eq_false (by omega)
  have t2 : decide (1099511627776 < n) = false := decide_eq_false (by omega)
  have CO := Lib.hid (fun (X : World) (h : RwA X a l) => coinref_any len a c l wi X h ok.ord (by have := ok.head.2; omega))
  have ck := coinL_ok ok wi
  obtain ⟨x2, x3, x4, hx⟩ := coinL_is l wi
  obtain ⟨hh, hhh⟩ : ∃ z, hasC (cW wi) l = z := ⟨_, rfl⟩
  simp only [hx, hhh, encR] at CO
  rw [hx] at ck
  simp only at ck
  obtain ⟨⟨k1, k2⟩, ⟨k3, k4⟩, k5, k6⟩ := ck
  obtain ⟨N, hN⟩ : ∃ N, l.length = N := ⟨_, rfl⟩
  simp only [hN] at C CO
  have e : recvL l wi n = withL l (wi, n, x3, x4) := by
    unfold recvL recvX
    rw [hx]
    simp only
    rw [if_pos (by rw [hx] at h; simpa using h)]
  have PU := Lib.hid (fun (X : World) (h : RwA X a l) => set_any len a c l (wi, n, x3, x4) X h ok.ord (by omega))
  rw [put_with (by right; simp; rw [hx] at h; simp only at h; omega)] at PU
  simp only [encR] at PU
  rw [e]
  obtain ⟨L, hL⟩ : ∃ z, withL l (wi, n, x3, x4) = z := ⟨_, rfl⟩
  obtain ⟨M, hM⟩ : ∃ M, L.length = M := ⟨_, rfl⟩
  simp only [hL, hN, hM] at PU
  rw [hN, hL, hM]
  rw [hx] at h
  simp only at h
  have s1 : decide (n ≤ x2) = false := decide_eq_false (by omega)
  cases hh
  · have s2 : ((N : Int) == 10000) = false := by
      have h5 := h2
      rw [hhh, hN] at h5
      have h6 : ¬ N = 10000 := by
        rcases h5 with q | q
        · exact absurd q (by decide)
        · omega
      simp; omega
    clear h h2 hx hhh hN hL hM e
    clear k1 k2 k3 k4 k5 k6 hp ok p1 p2 hm
    go_enter Try.func30, Try.ntmps30
    obtain ⟨G, hG⟩ : ∃ G, w.heap.size = G := ⟨_, rfl⟩
    have HG := Lib.hid hG
    have Kb := Lib.hid (show Blk ((w.alloc (.cells #[.int .i64 len, .slice a N c] 45)).alloc (.cells #[.int .i64 0, .slice none 0 0, .int .i64 0] 51)) (G) 45 #[.int .i64 len, .slice a N c] from (Blk.new' _ _ _ _ hG rfl).alloc _)
    have Kr := Lib.hid (show Blk ((w.alloc (.cells #[.int .i64 len, .slice a N c] 45)).alloc (.cells #[.int .i64 0, .slice none 0 0, .int .i64 0] 51)) (G + 1) 51 #[.int .i64 0, .slice none 0 0, .int .i64 0] from Blk.new' _ _ _ _ (by rw [World.size_alloc, hG]) rfl)
    have B := Lib.hid (show Below w.heap.size w ((w.alloc (.cells #[.int .i64 len, .slice a N c] 45)).alloc (.cells #[.int .i64 0, .slice none 0 0, .int .i64 0] 51)) by (repeat' (first | (with_reducible exact Below.refl _ _) | (with_reducible assumption) | (with_reducible refine Below.alloc ?_ ?_ _) | (with_reducible refine Below.drew ?_) | (with_reducible refine below_dn ?_) | (with_reducible refine Below.setCell ?_ ?_ _) | (with_reducible exact Nat.le_refl _) | omega | (simp only [World.size_alloc, World.size_setCell, World.size_drew]; omega) | (simp; omega) | (simp; done))))
    go_upto_region 1 with (fail)
    try rw [hG]
    generalize hw0 : ((w.alloc (.cells #[.int .i64 len, .slice a N c] 45)).alloc (.cells #[.int .i64 0, .slice none 0 0, .int .i64 0] 51)) = w0 at Kb Kr B ⊢
    clear hw0 hG
    obtain ⟨bbc0, bbc1⟩ := twob Kb.out
    obtain ⟨brc0, brc1, brc2⟩ := three Kr.out
    go_wp2_with fail
    refine (C.out _ (HP.out.mono B.out)).mono ?_
    rintro e w1 ⟨rfl, hb⟩
    replace Kb := Lib.hid (Kb.out.below hb Kb.out.lt)
    replace Kr := Lib.hid (Kr.out.below hb Kr.out.lt)
    replace B := Lib.hid (B.out.trans (hb.mono B.out.size))
    clear bbc0 bbc1 brc0 brc1 brc2
    clear hb
    obtain ⟨bbc0, bbc1⟩ := twob Kb.out
    obtain ⟨brc0, brc1, brc2⟩ := three Kr.out
    go_wp2_with fail
    refine (C1.out _).mono ?_
    rintro e wz ⟨rfl, rfl⟩
    go_wp2_with fail
    refine (CO.out _ (HP.out.mono B.out)).mono ?_
    rintro e w2 ⟨rfl, hb⟩
    replace Kb := Lib.hid (Kb.out.below hb Kb.out.lt)
    replace Kr := Lib.hid (Kr.out.below hb Kr.out.lt)
    replace B := Lib.hid (B.out.trans (hb.mono B.out.size))
    clear bbc0 bbc1 brc0 brc1 brc2
    clear hb
    obtain ⟨bbc0, bbc1⟩ := twob Kb.out
    obtain ⟨brc0, brc1, brc2⟩ := three Kr.out
    obtain ⟨gx, hgx⟩ : ∃ G, w2.heap.size = G := ⟨_, rfl⟩
    have Kx := Lib.hid (show Blk (w2.alloc (.cells #[.int .i64 wi, .int .i64 x2, .int .i64 x3, .int .i64 x4] 89)) gx 89 #[.int .i64 wi, .int .i64 x2, .int .i64 x3, .int .i64 x4] from Blk.new' w2 _ _ _ hgx rfl)
    have Nbx := Lib.hid (show G < gx from by rw [← hgx]; exact Kb.out.lt)
    replace Kb := Lib.hid (Kb.out.alloc (.cells #[.int .i64 wi, .int .i64 x2, .int .i64 x3, .int .i64 x4] 89))
    have Nrx := Lib.hid (show G + 1 < gx from by rw [← hgx]; exact Kr.out.lt)
    replace Kr := Lib.hid (Kr.out.alloc (.cells #[.int .i64 wi, .int .i64 x2, .int .i64 x3, .int .i64 x4] 89))
    have Lx := Lib.hid (show w.heap.size ≤ gx from by rw [← hgx]; exact B.out.size)
    replace B := Lib.hid (B.out.alloc B.out.size (.cells #[.int .i64 wi, .int .i64 x2, .int .i64 x3, .int .i64 x4] 89))
    go_upto_region 4 with (fail)
    try rw [hgx]
    generalize hw : w2.alloc (.cells #[.int .i64 wi, .int .i64 x2, .int .i64 x3, .int .i64 x4] 89) = w3 at Kb Kr Kx  B ⊢
    clear bbc0 bbc1 brc0 brc1 brc2
    clear hw hgx
    obtain ⟨bbc0, bbc1⟩ := twob Kb.out
    obtain ⟨brc0, brc1, brc2⟩ := three Kr.out
    obtain ⟨bxc0, bxc1, bxc2, bxc3⟩ := four Kx.out
    clear bbc0 bbc1 brc0 brc1 brc2 bxc0 bxc1 bxc2 bxc3
    obtain ⟨bbc0, bbc1⟩ := twob Kb.out
    obtain ⟨brc0, brc1, brc2⟩ := three Kr.out
    obtain ⟨bxc0, bxc1, bxc2, bxc3⟩ := four Kx.out
    have fzx := fun q => Kx.out.frozen q
    replace Kx := Lib.hid (show Blk (w3.setCell ⟨gx, 1, none⟩ (.int .i64 n)) (gx) 89 #[.int .i64 wi, .int .i64 n, .int .i64 x3, .int .i64 x4] from Kx.out.set_ 1 _)
    replace Kb := Lib.hid (show Blk (w3.setCell ⟨gx, 1, none⟩ (.int .i64 n)) (G) _ _ from Kb.out.far (p := ⟨gx, 1, none⟩) (by have := Nbx.out; show G ≠ gx; omega) (.int .i64 n))
    replace Kr := Lib.hid (show Blk (w3.setCell ⟨gx, 1, none⟩ (.int .i64 n)) (G + 1) _ _ from Kr.out.far (p := ⟨gx, 1, none⟩) (by have := Nrx.out; show G + 1 ≠ gx; omega) (.int .i64 n))
    replace B := Lib.hid (show Below w.heap.size w (w3.setCell ⟨gx, 1, none⟩ (.int .i64 n)) from B.out.setCell (p := ⟨gx, 1, none⟩) Lx.out (.int .i64 n))
    go_upto_region 9 with (fail)
    generalize hw : (w3.setCell ⟨gx, 1, none⟩ (.int .i64 n)) = w4 at Kb Kr Kx B ⊢
    clear bbc0 bbc1 brc0 brc1 brc2 bxc0 bxc1 bxc2 bxc3 fzx
    clear hw
    obtain ⟨bbc0, bbc1⟩ := twob Kb.out
    obtain ⟨brc0, brc1, brc2⟩ := three Kr.out
    obtain ⟨bxc0, bxc1, bxc2, bxc3⟩ := four Kx.out
    have Qr := Lib.hid Kr.out.lt
    go_wp2_with fail
    refine (PU.out _ (HP.out.mono B.out)).mono ?_
    rintro e w5 ⟨⟨ap, cp, rfl, hr, hf⟩, hb⟩
    have Zp := Lib.hid hr
    have Fp := Lib.hid hf
    replace Kb := Lib.hid (Kb.out.below hb Kb.out.lt)
    replace Kr := Lib.hid (Kr.out.below hb Kr.out.lt)
    replace Kx := Lib.hid (Kx.out.below hb Kx.out.lt)
    replace B := Lib.hid (B.out.trans (hb.mono B.out.size))
    clear bbc0 bbc1 brc0 brc1 brc2 bxc0 bxc1 bxc2 bxc3
    clear hb hr hf
    obtain ⟨bbc0, bbc1⟩ := twob Kb.out
    obtain ⟨brc0, brc1, brc2⟩ := three Kr.out
    obtain ⟨bxc0, bxc1, bxc2, bxc3⟩ := four Kx.out
    have Rp := Zp
    clear Zp
    have Epr := Lib.hid (show ∀ p, ap = some p → p.block ≠ G + 1 from fun p hp => by have h1 := Fp.out p hp; have h2 := Qr.out; omega)
    clear Fp Qr
    clear bbc0 bbc1 brc0 brc1 brc2 bxc0 bxc1 bxc2 bxc3
    obtain ⟨bbc0, bbc1⟩ := twob Kb.out
    obtain ⟨brc0, brc1, brc2⟩ := three Kr.out
    obtain ⟨bxc0, bxc1, bxc2, bxc3⟩ := four Kx.out
    have fzr := fun q => Kr.out.frozen q
    go_wp2
    have K9 := Lib.hid (Kr.out.set3 (.int .i64 len) (.slice ap M cp) (.int .i64 0))
    have B9 := (((B.out.setCell (p := ⟨G + 1, 0, none⟩) (show w.heap.size ≤ G + 1 by have := HG.out; omega) (.int .i64 len)).setCell (p := ⟨G + 1, 1, none⟩) (show w.heap.size ≤ G + 1 by have := HG.out; omega) (.slice ap M cp)).setCell (p := ⟨G + 1, 2, none⟩) (show w.heap.size ≤ G + 1 by have := HG.out; omega) (.int .i64 0))
    simp only [set3] at K9
    have Sp := (RowsA.far (RowsA.far (RowsA.far Rp.out (p := ⟨G + 1, 0, none⟩) (Epr.out) (.int .i64 len)) (p := ⟨G + 1, 1, none⟩) (Epr.out) (.slice ap M cp)) (p := ⟨G + 1, 2, none⟩) (Epr.out) (.int .i64 0))
    generalize hw2 : (((w5.setCell ⟨G + 1, 0, none⟩ (.int .i64 len)).setCell ⟨G + 1, 1, none⟩ (.slice ap M cp)).setCell ⟨G + 1, 2, none⟩ (.int .i64 0)) = w9 at K9 B9 Sp ⊢
    clear bbc0 bbc1 brc0 brc1 brc2 bxc0 bxc1 bxc2 bxc3 fzr
    clear hw2
    obtain ⟨d0, d1, d2⟩ := three K9.out
    refine bodyPost_ret (by simp [results, Try.results30, go_sem, d0, d1, d2]; try rfl) rfl ?_
    exact ⟨⟨ap, cp, rfl, Sp⟩, B9⟩
  · clear h h2 hx hhh hN hL hM e
    clear k1 k2 k3 k4 k5 k6 hp ok p1 p2 hm
    go_enter Try.func30, Try.ntmps30
    obtain ⟨G, hG⟩ : ∃ G, w.heap.size = G := ⟨_, rfl⟩
    have HG := Lib.hid hG
    have Kb := Lib.hid (show Blk ((w.alloc (.cells #[.int .i64 len, .slice a N c] 45)).alloc (.cells #[.int .i64 0, .slice none 0 0, .int .i64 0] 51)) (G) 45 #[.int .i64 len, .slice a N c] from (Blk.new' _ _ _ _ hG rfl).alloc _)
    have Kr := Lib.hid (show Blk ((w.alloc (.cells #[.int .i64 len, .slice a N c] 45)).alloc (.cells #[.int .i64 0, .slice none 0 0, .int .i64 0] 51)) (G + 1) 51 #[.int .i64 0, .slice none 0 0, .int .i64 0] from Blk.new' _ _ _ _ (by rw [World.size_alloc, hG]) rfl)
    have B := Lib.hid (show Below w.heap.size w ((w.alloc (.cells #[.int .i64 len, .slice a N c] 45)).alloc (.cells #[.int .i64 0, .slice none 0 0, .int .i64 0] 51)) by (repeat' (first | (with_reducible exact Below.refl _ _) | (with_reducible assumption) | (with_reducible refine Below.alloc ?_ ?_ _) | (with_reducible refine Below.drew ?_) | (with_reducible refine below_dn ?_) | (with_reducible refine Below.setCell ?_ ?_ _) | (with_reducible exact Nat.le_refl _) | omega | (simp only [World.size_alloc, World.size_setCell, World.size_drew]; omega) | (simp; omega) | (simp; done))))
    go_upto_region 1 with (fail)
    try rw [hG]
    generalize hw0 : ((w.alloc (.cells #[.int .i64 len, .slice a N c] 45)).alloc (.cells #[.int .i64 0, .slice none 0 0, .int .i64 0] 51)) = w0 at Kb Kr B ⊢
    clear hw0 hG
    obtain ⟨bbc0, bbc1⟩ := twob Kb.out
    obtain ⟨brc0, brc1, brc2⟩ := three Kr.out
    go_wp2_with fail
    refine (C.out _ (HP.out.mono B.out)).mono ?_
    rintro e w1 ⟨rfl, hb⟩
    replace Kb := Lib.hid (Kb.out.below hb Kb.out.lt)
    replace Kr := Lib.hid (Kr.out.below hb Kr.out.lt)
    replace B := Lib.hid (B.out.trans (hb.mono B.out.size))
    clear bbc0 bbc1 brc0 brc1 brc2
    clear hb
    obtain ⟨bbc0, bbc1⟩ := twob Kb.out
    obtain ⟨brc0, brc1, brc2⟩ := three Kr.out
    go_wp2_with fail
    refine (C1.out _).mono ?_
    rintro e wz ⟨rfl, rfl⟩
    go_wp2_with fail
    refine (CO.out _ (HP.out.mono B.out)).mono ?_
    rintro e w2 ⟨rfl, hb⟩
    replace Kb := Lib.hid (Kb.out.below hb Kb.out.lt)
    replace Kr := Lib.hid (Kr.out.below hb Kr.out.lt)
    replace B := Lib.hid (B.out.trans (hb.mono B.out.size))
    clear bbc0 bbc1 brc0 brc1 brc2
    clear hb
    obtain ⟨bbc0, bbc1⟩ := twob Kb.out
    obtain ⟨brc0, brc1, brc2⟩ := three Kr.out
    obtain ⟨gx, hgx⟩ : ∃ G, w2.heap.size = G := ⟨_, rfl⟩
    have Kx := Lib.hid (show Blk (w2.alloc (.cells #[.int .i64 wi, .int .i64 x2, .int .i64 x3, .int .i64 x4] 89)) gx 89 #[.int .i64 wi, .int .i64 x2, .int .i64 x3, .int .i64 x4] from Blk.new' w2 _ _ _ hgx rfl)
    have Nbx := Lib.hid (show G < gx from by rw [← hgx]; exact Kb.out.lt)
    replace Kb := Lib.hid (Kb.out.alloc (.cells #[.int .i64 wi, .int .i64 x2, .int .i64 x3, .int .i64 x4] 89))
    have Nrx := Lib.hid (show G + 1 < gx from by rw [← hgx]; exact Kr.out.lt)
    replace Kr := Lib.hid (Kr.out.alloc (.cells #[.int .i64 wi, .int .i64 x2, .int .i64 x3, .int .i64 x4] 89))
    have Lx := Lib.hid (show w.heap.size ≤ gx from by rw [← hgx]; exact B.out.size)
    replace B := Lib.hid (B.out.alloc B.out.size (.cells #[.int .i64 wi, .int .i64 x2, .int .i64 x3, .int .i64 x4] 89))
    go_upto_region 4 with (fail)
    try rw [hgx]
    generalize hw : w2.alloc (.cells #[.int .i64 wi, .int .i64 x2, .int .i64 x3, .int .i64 x4] 89) = w3 at Kb Kr Kx  B ⊢
    clear bbc0 bbc1 brc0 brc1 brc2
    clear hw hgx
    obtain ⟨bbc0, bbc1⟩ := twob Kb.out
    obtain ⟨brc0, brc1, brc2⟩ := three Kr.out
    obtain ⟨bxc0, bxc1, bxc2, bxc3⟩ := four Kx.out
    clear bbc0 bbc1 brc0 brc1 brc2 bxc0 bxc1 bxc2 bxc3
    obtain ⟨bbc0, bbc1⟩ := twob Kb.out
    obtain ⟨brc0, brc1, brc2⟩ := three Kr.out
    obtain ⟨bxc0, bxc1, bxc2, bxc3⟩ := four Kx.out
    have fzx := fun q => Kx.out.frozen q
    replace Kx := Lib.hid (show Blk (w3.setCell ⟨gx, 1, none⟩ (.int .i64 n)) (gx) 89 #[.int .i64 wi, .int .i64 n, .int .i64 x3, .int .i64 x4] from Kx.out.set_ 1 _)
    replace Kb := Lib.hid (show Blk (w3.setCell ⟨gx, 1, none⟩ (.int .i64 n)) (G) _ _ from Kb.out.far (p := ⟨gx, 1, none⟩) (by have := Nbx.out; show G ≠ gx; omega) (.int .i64 n))
    replace Kr := Lib.hid (show Blk (w3.setCell ⟨gx, 1, none⟩ (.int .i64 n)) (G + 1) _ _ from Kr.out.far (p := ⟨gx, 1, none⟩) (by have := Nrx.out; show G + 1 ≠ gx; omega) (.int .i64 n))
    replace B := Lib.hid (show Below w.heap.size w (w3.setCell ⟨gx, 1, none⟩ (.int .i64 n)) from B.out.setCell (p := ⟨gx, 1, none⟩) Lx.out (.int .i64 n))
    go_upto_region 9 with (fail)
    generalize hw : (w3.setCell ⟨gx, 1, none⟩ (.int .i64 n)) = w4 at Kb Kr Kx B ⊢
    clear bbc0 bbc1 brc0 brc1 brc2 bxc0 bxc1 bxc2 bxc3 fzx
    clear hw
    obtain ⟨bbc0, bbc1⟩ := twob Kb.out
    obtain ⟨brc0, brc1, brc2⟩ := three Kr.out
    obtain ⟨bxc0, bxc1, bxc2, bxc3⟩ := four Kx.out
    have Qr := Lib.hid Kr.out.lt
    go_wp2_with fail
    refine (PU.out _ (HP.out.mono B.out)).mono ?_
    rintro e w5 ⟨⟨ap, cp, rfl, hr, hf⟩, hb⟩
    have Zp := Lib.hid hr
    have Fp := Lib.hid hf
    replace Kb := Lib.hid (Kb.out.below hb Kb.out.lt)
    replace Kr := Lib.hid (Kr.out.below hb Kr.out.lt)
    replace Kx := Lib.hid (Kx.out.below hb Kx.out.lt)
    replace B := Lib.hid (B.out.trans (hb.mono B.out.size))
    clear bbc0 bbc1 brc0 brc1 brc2 bxc0 bxc1 bxc2 bxc3
    clear hb hr hf
    obtain ⟨bbc0, bbc1⟩ := twob Kb.out
    obtain ⟨brc0, brc1, brc2⟩ := three Kr.out
    obtain ⟨bxc0, bxc1, bxc2, bxc3⟩ := four Kx.out
    have Rp := Zp
    clear Zp
    have Epr := Lib.hid (show ∀ p, ap = some p → p.block ≠ G + 1 from fun p hp => by have h1 := Fp.out p hp; have h2 := Qr.out; omega)
    clear Fp Qr
    clear bbc0 bbc1 brc0 brc1 brc2 bxc0 bxc1 bxc2 bxc3
    obtain ⟨bbc0, bbc1⟩ := twob Kb.out
    obtain ⟨brc0, brc1, brc2⟩ := three Kr.out
    obtain ⟨bxc0, bxc1, bxc2, bxc3⟩ := four Kx.out
    have fzr := fun q => Kr.out.frozen q
    go_wp2
    have K9 := Lib.hid (Kr.out.set3 (.int .i64 len) (.slice ap M cp) (.int .i64 0))
    have B9 := (((B.out.setCell (p := ⟨G + 1, 0, none⟩) (show w.heap.size ≤ G + 1 by have := HG.out; omega) (.int .i64 len)).setCell (p := ⟨G + 1, 1, none⟩) (show w.heap.size ≤ G + 1 by have := HG.out; omega) (.slice ap M cp)).setCell (p := ⟨G + 1, 2, none⟩) (show w.heap.size ≤ G + 1 by have := HG.out; omega) (.int .i64 0))
    simp only [set3] at K9
    have Sp := (RowsA.far (RowsA.far (RowsA.far Rp.out (p := ⟨G + 1, 0, none⟩) (Epr.out) (.int .i64 len)) (p := ⟨G + 1, 1, none⟩) (Epr.out) (.slice ap M cp)) (p := ⟨G + 1, 2, none⟩) (Epr.out) (.int .i64 0))
    generalize hw2 : (((w5.setCell ⟨G + 1, 0, none⟩ (.int .i64 len)).setCell ⟨G + 1, 1, none⟩ (.slice ap M cp)).setCell ⟨G + 1, 2, none⟩ (.int .i64 0)) = w9 at K9 B9 Sp ⊢
    clear bbc0 bbc1 brc0 brc1 brc2 bxc0 bxc1 bxc2 bxc3 fzr
    clear hw2
    obtain ⟨d0, d1, d2⟩ := three K9.out
    refine bodyPost_ret (by simp [results, Try.results30, go_sem, d0, d1, d2]; try rfl) rfl ?_
    exact ⟨⟨ap, cp, rfl, Sp⟩, B9⟩
end
end Go.Proofs.Ytcgdhankllphgaa
