/- The reference gives back and forgets, both sides, and law 3 (RH, RZ, RF, BB, S3 in one text) -/
import Derived.Test.YtcgdhankllphgaaRX
import Derived.Test.YtcgdhankllphgaaRY
import Derived.Test.YtcgdhankllphgaaCL
import Derived.Test.YtcgdhankllphgaaE
import Derived.Test.YtcgdhankllphgaaDO
import Derived.Test.YtcgdhankllphgaaSM
import Derived.Test.YtcgdhankllphgaaNG
import Derived.Test.YtcgdhankllphgaaSB
namespace Go.Proofs.Ytcgdhankllphgaa
set_option linter.unusedVariables false
set_option linter.unusedSimpArgs false
section
open Go.RowKit Go.Sort
theorem RwA.blk_lt {W : World} {a : Option Addr} {l : List Rw} (h : RwA W a l) {k : Nat} (hk : k < l.length) {b off : Nat} (e : a = some ⟨b, off, none⟩) : b < W.heap.size := by
  obtain ⟨b', off', e', q0, q1, q2, q3⟩ := RwA.at_ h hk
  rw [e] at e'
  injection e' with e'
  injection e' with e1 e2 e3
  subst e1
  exact block_lt_of_cell q0
theorem RwA.cells_ {W : World} {a : Option Addr} {l : List Rw} (h : RwA W a l) {k : Nat} (hk : k < l.length) {b off : Nat} (e : a = some ⟨b, off, none⟩) :
    W.cell? ⟨b, off + k * 4, none⟩ = some (.int .i64 (l.getD k r0).1) ∧ W.cell? ⟨b, off + k * 4 + 1, none⟩ = some (.int .i64 (l.getD k r0).2.1) ∧ W.cell? ⟨b, off + k * 4 + 2, none⟩ = some (.int .i64 (l.getD k r0).2.2.1) ∧ W.cell? ⟨b, off + k * 4 + 3, none⟩ = some (.int .i64 (l.getD k r0).2.2.2) := by
  obtain ⟨b', off', e', q0, q1, q2, q3⟩ := RwA.at_ h hk
  rw [e] at e'
  injection e' with e'
  injection e' with e1 e2 e3
  subst e1; subst e2
  exact ⟨q0, q1, q2, q3⟩
end
section
open Go.RowKit Go.Sort
set_option maxRecDepth 100000 in
set_option maxHeartbeats 2000000 in
theorem retref_arg (cap len : Int) (a : Option Addr) (c : Nat) (l : List Rw) (wi ga n : Int) (w : World) (hp : RwA w a l) (h : ¬ (OkB cap len l ∧ winOk wi ∧ gateOk ga ∧ 0 ≤ n ∧ n ≤ dealtL l wi ga)) (hm : l.length ≤ 9223372036854775807) :
    Calls Try.prog 15 #[.agg #[.int .i64 cap, .int .i64 len, .slice a l.length c], .int .i64 wi, .int .i64 ga, .int .i64 n] w fun e w' => e = .returned (.agg #[.int .i64 0, .int .i64 0, .slice none 0 0, .int .i64 1]) ∧ Below w.heap.size w w' := by
  have HP := Lib.hid hp
  obtain ⟨N, hN⟩ : ∃ N, l.length = N := ⟨_, rfl⟩
  by_cases ok : OkB cap len l
  · have C := Lib.hid (fun (X : World) (h : RwA X a l) => rvalid_yes ok a c X h)
    simp only [hN] at C
    by_cases p1 : winOk wi
    · have C1 := Lib.hid (fun W => rwin_yes p1 W)
      by_cases p2 : gateOk ga
      · have C2 := Lib.hid (fun W => rgate_yes p2 W)
        have h3 : ¬ (0 ≤ n ∧ n ≤ dealtL l wi ga) := fun q => h ⟨ok, p1, p2, q.1, q.2⟩
        have RW := Lib.hid (fun (X : World) (h : RwA X a l) => rowref_any cap len a c l wi ga X h ok.ord (by have := ok.head.2.2; omega))
        simp only [rowL_is] at RW
        obtain ⟨x3, hx3⟩ : ∃ z, dealtL l wi ga = z := ⟨_, rfl⟩
        obtain ⟨x4, hx4⟩ : ∃ z, backL l wi ga = z := ⟨_, rfl⟩
        obtain ⟨hh, hhh⟩ : ∃ z, hasC (cR wi ga) l = z := ⟨_, rfl⟩
        simp only [hx3, hx4, hhh, encR] at RW
        rw [hx3] at h3
        simp only [hN] at RW
        rw [hN]
        clear h ok p1 p2 hp hN hm hx3 hx4 hhh
        by_cases h1 : n < 0
        · have t1 : decide (n < 0) = true := decide_eq_true (by omega)
          clear h1 h3
          go_enter Try.func15, Try.ntmps15
          obtain ⟨G, hG⟩ : ∃ G, w.heap.size = G := ⟨_, rfl⟩
          have HG := Lib.hid hG
          have Kb := Lib.hid (show Blk ((w.alloc (.cells #[.int .i64 cap, .int .i64 len, .slice a N c] 24)).alloc (.cells #[.int .i64 0, .int .i64 0, .slice none 0 0, .int .i64 0] 34)) (G) 24 #[.int .i64 cap, .int .i64 len, .slice a N c] from (Blk.new' _ _ _ _ hG rfl).alloc _)
          have Kr := Lib.hid (show Blk ((w.alloc (.cells #[.int .i64 cap, .int .i64 len, .slice a N c] 24)).alloc (.cells #[.int .i64 0, .int .i64 0, .slice none 0 0, .int .i64 0] 34)) (G + 1) 34 #[.int .i64 0, .int .i64 0, .slice none 0 0, .int .i64 0] from Blk.new' _ _ _ _ (by rw [World.size_alloc, hG]) rfl)
          have B := Lib.hid (show Below w.heap.size w ((w.alloc (.cells #[.int .i64 cap, .int .i64 len, .slice a N c] 24)).alloc (.cells #[.int .i64 0, .int .i64 0, .slice none 0 0, .int .i64 0] 34)) by (repeat' (first | (with_reducible exact Below.refl _ _) | (with_reducible assumption) | (with_reducible refine Below.alloc ?_ ?_ _) | (with_reducible refine Below.drew ?_) | (with_reducible refine below_dn ?_) | (with_reducible refine Below.setCell ?_ ?_ _) | (with_reducible exact Nat.le_refl _) | omega | (simp only [World.size_alloc, World.size_setCell, World.size_drew]; omega) | (simp; omega) | (simp; done))))
          go_upto_region 1 with (fail)
          try rw [hG]
          generalize hw0 : ((w.alloc (.cells #[.int .i64 cap, .int .i64 len, .slice a N c] 24)).alloc (.cells #[.int .i64 0, .int .i64 0, .slice none 0 0, .int .i64 0] 34)) = w0 at Kb Kr B ⊢
          clear hw0 hG
          obtain ⟨bbc0, bbc1, bbc2⟩ := three Kb.out
          obtain ⟨brc0, brc1, brc2, brc3⟩ := four Kr.out
          go_wp2_with fail
          refine (C.out _ (HP.out.mono B.out)).mono ?_
          rintro e w1 ⟨rfl, hb⟩
          replace Kb := Lib.hid (Kb.out.below hb Kb.out.lt)
          replace Kr := Lib.hid (Kr.out.below hb Kr.out.lt)
          replace B := Lib.hid (B.out.trans (hb.mono B.out.size))
          clear bbc0 bbc1 bbc2 brc0 brc1 brc2 brc3
          clear hb
          obtain ⟨bbc0, bbc1, bbc2⟩ := three Kb.out
          obtain ⟨brc0, brc1, brc2, brc3⟩ := four Kr.out
          go_wp2_with fail
          refine (C1.out _).mono ?_
          rintro e wz ⟨rfl, rfl⟩
          go_wp2_with fail
          refine (C2.out _).mono ?_
          rintro e wz ⟨rfl, rfl⟩
          go_wp2_with fail
          refine (RW.out _ (HP.out.mono B.out)).mono ?_
          rintro e w2 ⟨rfl, hb⟩
          replace Kb := Lib.hid (Kb.out.below hb Kb.out.lt)
          replace Kr := Lib.hid (Kr.out.below hb Kr.out.lt)
          replace B := Lib.hid (B.out.trans (hb.mono B.out.size))
          clear bbc0 bbc1 bbc2 brc0 brc1 brc2 brc3
          clear hb
          obtain ⟨bbc0, bbc1, bbc2⟩ := three Kb.out
          obtain ⟨brc0, brc1, brc2, brc3⟩ := four Kr.out
          obtain ⟨gx, hgx⟩ : ∃ G, w2.heap.size = G := ⟨_, rfl⟩
          have Kx := Lib.hid (show Blk (w2.alloc (.cells #[.int .i64 wi, .int .i64 ga, .int .i64 x3, .int .i64 x4] 72)) gx 72 #[.int .i64 wi, .int .i64 ga, .int .i64 x3, .int .i64 x4] from Blk.new' w2 _ _ _ hgx rfl)
          have Nbx := Lib.hid (show G < gx from by rw [← hgx]; exact Kb.out.lt)
          replace Kb := Lib.hid (Kb.out.alloc (.cells #[.int .i64 wi, .int .i64 ga, .int .i64 x3, .int .i64 x4] 72))
          have Nrx := Lib.hid (show G + 1 < gx from by rw [← hgx]; exact Kr.out.lt)
          replace Kr := Lib.hid (Kr.out.alloc (.cells #[.int .i64 wi, .int .i64 ga, .int .i64 x3, .int .i64 x4] 72))
          have Lx := Lib.hid (show w.heap.size ≤ gx from by rw [← hgx]; exact B.out.size)
          replace B := Lib.hid (B.out.alloc B.out.size (.cells #[.int .i64 wi, .int .i64 ga, .int .i64 x3, .int .i64 x4] 72))
          go_upto_region 4 with (fail)
          try rw [hgx]
          generalize hw : w2.alloc (.cells #[.int .i64 wi, .int .i64 ga, .int .i64 x3, .int .i64 x4] 72) = w3 at Kb Kr Kx  B ⊢
          clear bbc0 bbc1 bbc2 brc0 brc1 brc2 brc3
          clear hw hgx
          obtain ⟨bbc0, bbc1, bbc2⟩ := three Kb.out
          obtain ⟨brc0, brc1, brc2, brc3⟩ := four Kr.out
          obtain ⟨bxc0, bxc1, bxc2, bxc3⟩ := four Kx.out
          clear bbc0 bbc1 bbc2 brc0 brc1 brc2 brc3 bxc0 bxc1 bxc2 bxc3
          obtain ⟨bbc0, bbc1, bbc2⟩ := three Kb.out
          obtain ⟨brc0, brc1, brc2, brc3⟩ := four Kr.out
          obtain ⟨bxc0, bxc1, bxc2, bxc3⟩ := four Kx.out
          have fzr := fun q => Kr.out.frozen q
          go_wp2
          have K9 := Lib.hid (Kr.out.setR (.int .i64 0) (.int .i64 0) (.slice none 0 0) (.int .i64 1))
          have B9 := ((((B.out.setCell (p := ⟨G + 1, 0, none⟩) (show w.heap.size ≤ G + 1 by have := HG.out; omega) (.int .i64 0)).setCell (p := ⟨G + 1, 1, none⟩) (show w.heap.size ≤ G + 1 by have := HG.out; omega) (.int .i64 0)).setCell (p := ⟨G + 1, 2, none⟩) (show w.heap.size ≤ G + 1 by have := HG.out; omega) (.slice none 0 0)).setCell (p := ⟨G + 1, 3, none⟩) (show w.heap.size ≤ G + 1 by have := HG.out; omega) (.int .i64 1))
          generalize hw2 : ((((w3.setCell ⟨G + 1, 0, none⟩ (.int .i64 0)).setCell ⟨G + 1, 1, none⟩ (.int .i64 0)).setCell ⟨G + 1, 2, none⟩ (.slice none 0 0)).setCell ⟨G + 1, 3, none⟩ (.int .i64 1)) = w9 at K9 B9 ⊢
          clear bbc0 bbc1 bbc2 brc0 brc1 brc2 brc3 bxc0 bxc1 bxc2 bxc3 fzr
          clear hw2
          obtain ⟨d0, d1, d2, d3⟩ := four K9.out
          refine bodyPost_ret (by simp [results, Try.results15, go_sem, d0, d1, d2, d3]; try rfl) rfl ?_
          exact ⟨rfl, B9⟩
        · have t1 : decide (n < 0) = false := decide_eq_false (by omega)
          have t2 : decide (x3 < n) = true := decide_eq_true (by omega)
          clear h1 h3
          go_enter Try.func15, Try.ntmps15
          obtain ⟨G, hG⟩ : ∃ G, w.heap.size = G := ⟨_, rfl⟩
          have HG := Lib.hid hG
          have Kb := Lib.hid (show Blk ((w.alloc (.cells #[.int .i64 cap, .int .i64 len, .slice a N c] 24)).alloc (.cells #[.int .i64 0, .int .i64 0, .slice none 0 0, .int .i64 0] 34)) (G) 24 #[.int .i64 cap, .int .i64 len, .slice a N c] from (Blk.new' _ _ _ _ hG rfl).alloc _)
          have Kr := Lib.hid (show Blk ((w.alloc (.cells #[.int .i64 cap, .int .i64 len, .slice a N c] 24)).alloc (.cells #[.int .i64 0, .int .i64 0, .slice none 0 0, .int .i64 0] 34)) (G + 1) 34 #[.int .i64 0, .int .i64 0, .slice none 0 0, .int .i64 0] from Blk.new' _ _ _ _ (by rw [World.size_alloc, hG]) rfl)
          have B := Lib.hid (show Below w.heap.size w ((w.alloc (.cells #[.int .i64 cap, .int .i64 len, .slice a N c] 24)).alloc (.cells #[.int .i64 0, .int .i64 0, .slice none 0 0, .int .i64 0] 34)) by (repeat' (first | (with_reducible exact Below.refl _ _) | (with_reducible assumption) | (with_reducible refine Below.alloc ?_ ?_ _) | (with_reducible refine Below.drew ?_) | (with_reducible refine below_dn ?_) | (with_reducible refine Below.setCell ?_ ?_ _) | (with_reducible exact Nat.le_refl _) | omega | (simp only [World.size_alloc, World.size_setCell, World.size_drew]; omega) | (simp; omega) | (simp; done))))
          go_upto_region 1 with (fail)
          try rw [hG]
          generalize hw0 : ((w.alloc (.cells #[.int .i64 cap, .int .i64 len, .slice a N c] 24)).alloc (.cells #[.int .i64 0, .int .i64 0, .slice none 0 0, .int .i64 0] 34)) = w0 at Kb Kr B ⊢
          clear hw0 hG
          obtain ⟨bbc0, bbc1, bbc2⟩ := three Kb.out
          obtain ⟨brc0, brc1, brc2, brc3⟩ := four Kr.out
          go_wp2_with fail
          refine (C.out _ (HP.out.mono B.out)).mono ?_
          rintro e w1 ⟨rfl, hb⟩
          replace Kb := Lib.hid (Kb.out.below hb Kb.out.lt)
          replace Kr := Lib.hid (Kr.out.below hb Kr.out.lt)
          replace B := Lib.hid (B.out.trans (hb.mono B.out.size))
          clear bbc0 bbc1 bbc2 brc0 brc1 brc2 brc3
          clear hb
          obtain ⟨bbc0, bbc1, bbc2⟩ := three Kb.out
          obtain ⟨brc0, brc1, brc2, brc3⟩ := four Kr.out
          go_wp2_with fail
          refine (C1.out _).mono ?_
          rintro e wz ⟨rfl, rfl⟩
          go_wp2_with fail
          refine (C2.out _).mono ?_
          rintro e wz ⟨rfl, rfl⟩
          go_wp2_with fail
          refine (RW.out _ (HP.out.mono B.out)).mono ?_
          rintro e w2 ⟨rfl, hb⟩
          replace Kb := Lib.hid (Kb.out.below hb Kb.out.lt)
          replace Kr := Lib.hid (Kr.out.below hb Kr.out.lt)
          replace B := Lib.hid (B.out.trans (hb.mono B.out.size))
          clear bbc0 bbc1 bbc2 brc0 brc1 brc2 brc3
          clear hb
          obtain ⟨bbc0, bbc1, bbc2⟩ := three Kb.out
          obtain ⟨brc0, brc1, brc2, brc3⟩ := four Kr.out
          obtain ⟨gx, hgx⟩ : ∃ G, w2.heap.size = G := ⟨_, rfl⟩
          have Kx := Lib.hid (show Blk (w2.alloc (.cells #[.int .i64 wi, .int .i64 ga, .int .i64 x3, .int .i64 x4] 72)) gx 72 #[.int .i64 wi, .int .i64 ga, .int .i64 x3, .int .i64 x4] from Blk.new' w2 _ _ _ hgx rfl)
          have Nbx := Lib.hid (show G < gx from by rw [← hgx]; exact Kb.out.lt)
          replace Kb := Lib.hid (Kb.out.alloc (.cells #[.int .i64 wi, .int .i64 ga, .int .i64 x3, .int .i64 x4] 72))
          have Nrx := Lib.hid (show G + 1 < gx from by rw [← hgx]; exact Kr.out.lt)
          replace Kr := Lib.hid (Kr.out.alloc (.cells #[.int .i64 wi, .int .i64 ga, .int .i64 x3, .int .i64 x4] 72))
          have Lx := Lib.hid (show w.heap.size ≤ gx from by rw [← hgx]; exact B.out.size)
          replace B := Lib.hid (B.out.alloc B.out.size (.cells #[.int .i64 wi, .int .i64 ga, .int .i64 x3, .int .i64 x4] 72))
          go_upto_region 4 with (fail)
          try rw [hgx]
          generalize hw : w2.alloc (.cells #[.int .i64 wi, .int .i64 ga, .int .i64 x3, .int .i64 x4] 72) = w3 at Kb Kr Kx  B ⊢
          clear bbc0 bbc1 bbc2 brc0 brc1 brc2 brc3
          clear hw hgx
          obtain ⟨bbc0, bbc1, bbc2⟩ := three Kb.out
          obtain ⟨brc0, brc1, brc2, brc3⟩ := four Kr.out
          obtain ⟨bxc0, bxc1, bxc2, bxc3⟩ := four Kx.out
          clear bbc0 bbc1 bbc2 brc0 brc1 brc2 brc3 bxc0 bxc1 bxc2 bxc3
          obtain ⟨bbc0, bbc1, bbc2⟩ := three Kb.out
          obtain ⟨brc0, brc1, brc2, brc3⟩ := four Kr.out
          obtain ⟨bxc0, bxc1, bxc2, bxc3⟩ := four Kx.out
          have fzr := fun q => Kr.out.frozen q
          go_wp2
          have K9 := Lib.hid (Kr.out.setR (.int .i64 0) (.int .i64 0) (.slice none 0 0) (.int .i64 1))
          have B9 := ((((B.out.setCell (p := ⟨G + 1, 0, none⟩) (show w.heap.size ≤ G + 1 by have := HG.out; omega) (.int .i64 0)).setCell (p := ⟨G + 1, 1, none⟩) (show w.heap.size ≤ G + 1 by have := HG.out; omega) (.int .i64 0)).setCell (p := ⟨G + 1, 2, none⟩) (show w.heap.size ≤ G + 1 by have := HG.out; omega) (.slice none 0 0)).setCell (p := ⟨G + 1, 3, none⟩) (show w.heap.size ≤ G + 1 by have := HG.out; omega) (.int .i64 1))
          generalize hw2 : ((((w3.setCell ⟨G + 1, 0, none⟩ (.int .i64 0)).setCell ⟨G + 1, 1, none⟩ (.int .i64 0)).setCell ⟨G + 1, 2, none⟩ (.slice none 0 0)).setCell ⟨G + 1, 3, none⟩ (.int .i64 1)) = w9 at K9 B9 ⊢
          clear bbc0 bbc1 bbc2 brc0 brc1 brc2 brc3 bxc0 bxc1 bxc2 bxc3 fzr
          clear hw2
          obtain ⟨d0, d1, d2, d3⟩ := four K9.out
          refine bodyPost_ret (by simp [results, Try.results15, go_sem, d0, d1, d2, d3]; try rfl) rfl ?_
          exact ⟨rfl, B9⟩
      · have C2 := Lib.hid (fun W => rgate_no p2 W)
        rw [hN]
        clear h ok p1 p2 hp hN hm
        go_enter Try.func15, Try.ntmps15
        obtain ⟨G, hG⟩ : ∃ G, w.heap.size = G := ⟨_, rfl⟩
        have HG := Lib.hid hG
        have Kb := Lib.hid (show Blk ((w.alloc (.cells #[.int .i64 cap, .int .i64 len, .slice a N c] 24)).alloc (.cells #[.int .i64 0, .int .i64 0, .slice none 0 0, .int .i64 0] 34)) (G) 24 #[.int .i64 cap, .int .i64 len, .slice a N c] from (Blk.new' _ _ _ _ hG rfl).alloc _)
        have Kr := Lib.hid (show Blk ((w.alloc (.cells #[.int .i64 cap, .int .i64 len, .slice a N c] 24)).alloc (.cells #[.int .i64 0, .int .i64 0, .slice none 0 0, .int .i64 0] 34)) (G + 1) 34 #[.int .i64 0, .int .i64 0, .slice none 0 0, .int .i64 0] from Blk.new' _ _ _ _ (by rw [World.size_alloc, hG]) rfl)
        have B := Lib.hid (show Below w.heap.size w ((w.alloc (.cells #[.int .i64 cap, .int .i64 len, .slice a N c] 24)).alloc (.cells #[.int .i64 0, .int .i64 0, .slice none 0 0, .int .i64 0] 34)) by (repeat' (first | (with_reducible exact Below.refl _ _) | (with_reducible assumption) | (with_reducible refine Below.alloc ?_ ?_ _) | (with_reducible refine Below.drew ?_) | (with_reducible refine below_dn ?_) | (with_reducible refine Below.setCell ?_ ?_ _) | (with_reducible exact Nat.le_refl _) | omega | (simp only [World.size_alloc, World.size_setCell, World.size_drew]; omega) | (simp; omega) | (simp; done))))
        go_upto_region 1 with (fail)
        try rw [hG]
        generalize hw0 : ((w.alloc (.cells #[.int .i64 cap, .int .i64 len, .slice a N c] 24)).alloc (.cells #[.int .i64 0, .int .i64 0, .slice none 0 0, .int .i64 0] 34)) = w0 at Kb Kr B ⊢
        clear hw0 hG
        obtain ⟨bbc0, bbc1, bbc2⟩ := three Kb.out
        obtain ⟨brc0, brc1, brc2, brc3⟩ := four Kr.out
        go_wp2_with fail
        refine (C.out _ (HP.out.mono B.out)).mono ?_
        rintro e w1 ⟨rfl, hb⟩
        replace Kb := Lib.hid (Kb.out.below hb Kb.out.lt)
        replace Kr := Lib.hid (Kr.out.below hb Kr.out.lt)
        replace B := Lib.hid (B.out.trans (hb.mono B.out.size))
        clear bbc0 bbc1 bbc2 brc0 brc1 brc2 brc3
        clear hb
        obtain ⟨bbc0, bbc1, bbc2⟩ := three Kb.out
        obtain ⟨brc0, brc1, brc2, brc3⟩ := four Kr.out
        go_wp2_with fail
        refine (C1.out _).mono ?_
        rintro e wz ⟨rfl, rfl⟩
        go_wp2_with fail
        refine (C2.out _).mono ?_
        rintro e wz ⟨rfl, rfl⟩
        clear bbc0 bbc1 bbc2 brc0 brc1 brc2 brc3
        obtain ⟨bbc0, bbc1, bbc2⟩ := three Kb.out
        obtain ⟨brc0, brc1, brc2, brc3⟩ := four Kr.out
        have fzr := fun q => Kr.out.frozen q
        go_wp2
        have K9 := Lib.hid (Kr.out.setR (.int .i64 0) (.int .i64 0) (.slice none 0 0) (.int .i64 1))
        have B9 := ((((B.out.setCell (p := ⟨G + 1, 0, none⟩) (show w.heap.size ≤ G + 1 by have := HG.out; omega) (.int .i64 0)).setCell (p := ⟨G + 1, 1, none⟩) (show w.heap.size ≤ G + 1 by have := HG.out; omega) (.int .i64 0)).setCell (p := ⟨G + 1, 2, none⟩) (show w.heap.size ≤ G + 1 by have := HG.out; omega) (.slice none 0 0)).setCell (p := ⟨G + 1, 3, none⟩) (show w.heap.size ≤ G + 1 by have := HG.out; omega) (.int .i64 1))
        generalize hw2 : ((((w1.setCell ⟨G + 1, 0, none⟩ (.int .i64 0)).setCell ⟨G + 1, 1, none⟩ (.int .i64 0)).setCell ⟨G + 1, 2, none⟩ (.slice none 0 0)).setCell ⟨G + 1, 3, none⟩ (.int .i64 1)) = w9 at K9 B9 ⊢
        clear bbc0 bbc1 bbc2 brc0 brc1 brc2 brc3 fzr
        clear hw2
        obtain ⟨d0, d1, d2, d3⟩ := four K9.out
        refine bodyPost_ret (by simp [results, Try.results15, go_sem, d0, d1, d2, d3]; try rfl) rfl ?_
        exact ⟨rfl, B9⟩
    · have C1 := Lib.hid (fun W => rwin_no p1 W)
      rw [hN]
      clear h ok p1 hp hN hm
      go_enter Try.func15, Try.ntmps15
      obtain ⟨G, hG⟩ : ∃ G, w.heap.size = G := ⟨_, rfl⟩
      have HG := Lib.hid hG
      have Kb := Lib.hid (show Blk ((w.alloc (.cells #[.int .i64 cap, .int .i64 len, .slice a N c] 24)).alloc (.cells #[.int .i64 0, .int .i64 0, .slice none 0 0, .int .i64 0] 34)) (G) 24 #[.int .i64 cap, .int .i64 len, .slice a N c] from (Blk.new' _ _ _ _ hG rfl).alloc _)
      have Kr := Lib.hid (show Blk ((w.alloc (.cells #[.int .i64 cap, .int .i64 len, .slice a N c] 24)).alloc (.cells #[.int .i64 0, .int .i64 0, .slice none 0 0, .int .i64 0] 34)) (G + 1) 34 #[.int .i64 0, .int .i64 0, .slice none 0 0, .int .i64 0] from Blk.new' _ _ _ _ (by rw [World.size_alloc, hG]) rfl)
      have B := Lib.hid (show Below w.heap.size w ((w.alloc (.cells #[.int .i64 cap, .int .i64 len, .slice a N c] 24)).alloc (.cells #[.int .i64 0, .int .i64 0, .slice none 0 0, .int .i64 0] 34)) by (repeat' (first | (with_reducible exact Below.refl _ _) | (with_reducible assumption) | (with_reducible refine Below.alloc ?_ ?_ _) | (with_reducible refine Below.drew ?_) | (with_reducible refine below_dn ?_) | (with_reducible refine Below.setCell ?_ ?_ _) | (with_reducible exact Nat.le_refl _) | omega | (simp only [World.size_alloc, World.size_setCell, World.size_drew]; omega) | (simp; omega) | (simp; done))))
      go_upto_region 1 with (fail)
      try rw [hG]
      generalize hw0 : ((w.alloc (.cells #[.int .i64 cap, .int .i64 len, .slice a N c] 24)).alloc (.cells #[.int .i64 0, .int .i64 0, .slice none 0 0, .int .i64 0] 34)) = w0 at Kb Kr B ⊢
      clear hw0 hG
      obtain ⟨bbc0, bbc1, bbc2⟩ := three Kb.out
      obtain ⟨brc0, brc1, brc2, brc3⟩ := four Kr.out
      go_wp2_with fail
      refine (C.out _ (HP.out.mono B.out)).mono ?_
      rintro e w1 ⟨rfl, hb⟩
      replace Kb := Lib.hid (Kb.out.below hb Kb.out.lt)
      replace Kr := Lib.hid (Kr.out.below hb Kr.out.lt)
      replace B := Lib.hid (B.out.trans (hb.mono B.out.size))
      clear bbc0 bbc1 bbc2 brc0 brc1 brc2 brc3
      clear hb
      obtain ⟨bbc0, bbc1, bbc2⟩ := three Kb.out
      obtain ⟨brc0, brc1, brc2, brc3⟩ := four Kr.out
      go_wp2_with fail
      refine (C1.out _).mono ?_
      rintro e wz ⟨rfl, rfl⟩
      clear bbc0 bbc1 bbc2 brc0 brc1 brc2 brc3
      obtain ⟨bbc0, bbc1, bbc2⟩ := three Kb.out
      obtain ⟨brc0, brc1, brc2, brc3⟩ := four Kr.out
      have fzr := fun q => Kr.out.frozen q
      go_wp2
      have K9 := Lib.hid (Kr.out.setR (.int .i64 0) (.int .i64 0) (.slice none 0 0) (.int .i64 1))
      have B9 := ((((B.out.setCell (p := ⟨G + 1, 0, none⟩) (show w.heap.size ≤ G + 1 by have := HG.out; omega) (.int .i64 0)).setCell (p := ⟨G + 1, 1, none⟩) (show w.heap.size ≤ G + 1 by have := HG.out; omega) (.int .i64 0)).setCell (p := ⟨G + 1, 2, none⟩) (show w.heap.size ≤ G + 1 by have := HG.out; omega) (.slice none 0 0)).setCell (p := ⟨G + 1, 3, none⟩) (show w.heap.size ≤ G + 1 by have := HG.out; omega) (.int .i64 1))
      generalize hw2 : ((((w1.setCell ⟨G + 1, 0, none⟩ (.int .i64 0)).setCell ⟨G + 1, 1, none⟩ (.int .i64 0)).setCell ⟨G + 1, 2, none⟩ (.slice none 0 0)).setCell ⟨G + 1, 3, none⟩ (.int .i64 1)) = w9 at K9 B9 ⊢
      clear bbc0 bbc1 bbc2 brc0 brc1 brc2 brc3 fzr
      clear hw2
      obtain ⟨d0, d1, d2, d3⟩ := four K9.out
      refine bodyPost_ret (by simp [results, Try.results15, go_sem, d0, d1, d2, d3]; try rfl) rfl ?_
      exact ⟨rfl, B9⟩
  · have C := Lib.hid (fun (X : World) (h : RwA X a l) => rvalid_no ok hm a c X h)
    simp only [hN] at C
    rw [hN]
    clear h ok hp hN hm
    go_enter Try.func15, Try.ntmps15
    obtain ⟨G, hG⟩ : ∃ G, w.heap.size = G := ⟨_, rfl⟩
    have HG := Lib.hid hG
    have Kb := Lib.hid (show Blk ((w.alloc (.cells #[.int .i64 cap, .int .i64 len, .slice a N c] 24)).alloc (.cells #[.int .i64 0, .int .i64 0, .slice none 0 0, .int .i64 0] 34)) (G) 24 #[.int .i64 cap, .int .i64 len, .slice a N c] from (Blk.new' _ _ _ _ hG rfl).alloc _)
    have Kr := Lib.hid (show Blk ((w.alloc (.cells #[.int .i64 cap, .int .i64 len, .slice a N c] 24)).alloc (.cells #[.int .i64 0, .int .i64 0, .slice none 0 0, .int .i64 0] 34)) (G + 1) 34 #[.int .i64 0, .int .i64 0, .slice none 0 0, .int .i64 0] from Blk.new' _ _ _ _ (by rw [World.size_alloc, hG]) rfl)
    have B := Lib.hid (show Below w.heap.size w ((w.alloc (.cells #[.int .i64 cap, .int .i64 len, .slice a N c] 24)).alloc (.cells #[.int .i64 0, .int .i64 0, .slice none 0 0, .int .i64 0] 34)) by (repeat' (first | (with_reducible exact Below.refl _ _) | (with_reducible assumption) | (with_reducible refine Below.alloc ?_ ?_ _) | (with_reducible refine Below.drew ?_) | (with_reducible refine below_dn ?_) | (with_reducible refine Below.setCell ?_ ?_ _) | (with_reducible exact Nat.le_refl _) | omega | (simp only [World.size_alloc, World.size_setCell, World.size_drew]; omega) | (simp; omega) | (simp; done))))
    go_upto_region 1 with (fail)
    try rw [hG]
    generalize hw0 : ((w.alloc (.cells #[.int .i64 cap, .int .i64 len, .slice a N c] 24)).alloc (.cells #[.int .i64 0, .int .i64 0, .slice none 0 0, .int .i64 0] 34)) = w0 at Kb Kr B ⊢
    clear hw0 hG
    obtain ⟨bbc0, bbc1, bbc2⟩ := three Kb.out
    obtain ⟨brc0, brc1, brc2, brc3⟩ := four Kr.out
    go_wp2_with fail
    refine (C.out _ (HP.out.mono B.out)).mono ?_
    rintro e w1 ⟨rfl, hb⟩
    replace Kb := Lib.hid (Kb.out.below hb Kb.out.lt)
    replace Kr := Lib.hid (Kr.out.below hb Kr.out.lt)
    replace B := Lib.hid (B.out.trans (hb.mono B.out.size))
    clear bbc0 bbc1 bbc2 brc0 brc1 brc2 brc3
    clear hb
    obtain ⟨bbc0, bbc1, bbc2⟩ := three Kb.out
    obtain ⟨brc0, brc1, brc2, brc3⟩ := four Kr.out
    clear bbc0 bbc1 bbc2 brc0 brc1 brc2 brc3
    obtain ⟨bbc0, bbc1, bbc2⟩ := three Kb.out
    obtain ⟨brc0, brc1, brc2, brc3⟩ := four Kr.out
    have fzr := fun q => Kr.out.frozen q
    go_wp2
    have K9 := Lib.hid (Kr.out.setR (.int .i64 0) (.int .i64 0) (.slice none 0 0) (.int .i64 1))
    have B9 := ((((B.out.setCell (p := ⟨G + 1, 0, none⟩) (show w.heap.size ≤ G + 1 by have := HG.out; omega) (.int .i64 0)).setCell (p := ⟨G + 1, 1, none⟩) (show w.heap.size ≤ G + 1 by have := HG.out; omega) (.int .i64 0)).setCell (p := ⟨G + 1, 2, none⟩) (show w.heap.size ≤ G + 1 by have := HG.out; omega) (.slice none 0 0)).setCell (p := ⟨G + 1, 3, none⟩) (show w.heap.size ≤ G + 1 by have := HG.out; omega) (.int .i64 1))
    generalize hw2 : ((((w1.setCell ⟨G + 1, 0, none⟩ (.int .i64 0)).setCell ⟨G + 1, 1, none⟩ (.int .i64 0)).setCell ⟨G + 1, 2, none⟩ (.slice none 0 0)).setCell ⟨G + 1, 3, none⟩ (.int .i64 1)) = w9 at K9 B9 ⊢
    clear bbc0 bbc1 bbc2 brc0 brc1 brc2 brc3 fzr
    clear hw2
    obtain ⟨d0, d1, d2, d3⟩ := four K9.out
    refine bodyPost_ret (by simp [results, Try.results15, go_sem, d0, d1, d2, d3]; try rfl) rfl ?_
    exact ⟨rfl, B9⟩
set_option maxRecDepth 100000 in
set_option maxHeartbeats 2000000 in
theorem retref_new (cap len : Int) (a : Option Addr) (c : Nat) (l : List Rw) (wi ga n : Int) (w : World) (hp : RwA w a l) (ok : OkB cap len l) (p1 : winOk wi) (p2 : gateOk ga) (p3 : 0 ≤ n ∧ n ≤ dealtL l wi ga) (h : backL l wi ga < n) :
    Calls Try.prog 15 #[.agg #[.int .i64 cap, .int .i64 len, .slice a l.length c], .int .i64 wi, .int .i64 ga, .int .i64 n] w fun e w' => (∃ a' c', e = .returned (.agg #[.int .i64 cap, .int .i64 len, .slice a' (retL l wi ga n).length c', .int .i64 0]) ∧ RwA w' a' (retL l wi ga n)) ∧ Below w.heap.size w w' := by
  have HP := Lib.hid hp
  have hm := ok.head.2.2
  have bk := back_bd ok wi ga
  have C := Lib.hid (fun (X : World) (h : RwA X a l) => rvalid_yes ok a c X h)
  have C1 := Lib.hid (fun W => rwin_yes p1 W)
  have C2 := Lib.hid (fun W => rgate_yes p2 W)
  have RW := Lib.hid (fun (X : World) (h : RwA X a l) => rowref_any cap len a c l wi ga X h ok.ord (by have := ok.head.2.2; omega))
  simp only [rowL_is] at RW
  obtain ⟨x3, hx3⟩ : ∃ z, dealtL l wi ga = z := ⟨_, rfl⟩
  obtain ⟨x4, hx4⟩ : ∃ z, backL l wi ga = z := ⟨_, rfl⟩
  obtain ⟨hh, hhh⟩ : ∃ z, hasC (cR wi ga) l = z := ⟨_, rfl⟩
  simp only [hx3, hx4, hhh, encR] at RW
  obtain ⟨N, hN⟩ : ∃ N, l.length = N := ⟨_, rfl⟩
  simp only [hN] at C RW
  rw [hx3] at p3 bk
  rw [hx4] at bk
  have t1 : decide (n < 0) = false := decide_eq_false (by omega)
  have t2 : decide (x3 < n) = false := decide_eq_false (by omega)
  have hb : ¬ n ≤ x4 := by rw [← hx4]; omega
  have s1 : decide (n ≤ x4) = false := decide_eq_false hb
  have h1 : hasC (cR wi ga) l = true := by
    cases e : hasC (cR wi ga) l
    · have : backL l wi ga = 0 := by unfold backL; rw [e]; rfl
      have : dealtL l wi ga = 0 := by unfold dealtL; rw [e]; rfl
      omega
    · rfl
  have PU := Lib.hid (fun (X : World) (h : RwA X a l) => put_any cap len a c l (wi, ga, x3, n) X h ok.ord (by omega))
  simp only [encR] at PU
  rw [← hx3, put_ret l wi ga n h1 (by omega), hx3] at PU
  rw [hN]
  obtain ⟨L, hL⟩ : ∃ z, retL l wi ga n = z := ⟨_, rfl⟩
  obtain ⟨M, hM⟩ : ∃ M, L.length = M := ⟨_, rfl⟩
  simp only [hL, hN, hM] at PU
  rw [hL, hM]
  clear h hb h1 hL hM hN
  clear bk hx3 hx4 hhh hp ok p1 p2 p3 hm
  go_enter Try.func15, Try.ntmps15
  obtain ⟨G, hG⟩ : ∃ G, w.heap.size = G := ⟨_, rfl⟩
  have HG := Lib.hid hG
  have Kb := Lib.hid (show Blk ((w.alloc (.cells #[.int .i64 cap, .int .i64 len, .slice a N c] 24)).alloc (.cells #[.int .i64 0, .int .i64 0, .slice none 0 0, .int .i64 0] 34)) (G) 24 #[.int .i64 cap, .int .i64 len, .slice a N c] from (Blk.new' _ _ _ _ hG rfl).alloc _)
  have Kr := Lib.hid (show Blk ((w.alloc (.cells #[.int .i64 cap, .int .i64 len, .slice a N c] 24)).alloc (.cells #[.int .i64 0, .int .i64 0, .slice none 0 0, .int .i64 0] 34)) (G + 1) 34 #[.int .i64 0, .int .i64 0, .slice none 0 0, .int .i64 0] from Blk.new' _ _ _ _ (by rw [World.size_alloc, hG]) rfl)
  have B := Lib.hid (show Below w.heap.size w ((w.alloc (.cells #[.int .i64 cap, .int .i64 len, .slice a N c] 24)).alloc (.cells #[.int .i64 0, .int .i64 0, .slice none 0 0, .int .i64 0] 34)) by (repeat' (first | (with_reducible exact Below.refl _ _) | (with_reducible assumption) | (with_reducible refine Below.alloc ?_ ?_ _) | (with_reducible refine Below.drew ?_) | (with_reducible refine below_dn ?_) | (with_reducible refine Below.setCell ?_ ?_ _) | (with_reducible exact Nat.le_refl _) | omega | (simp only [World.size_alloc, World.size_setCell, World.size_drew]; omega) | (simp; omega) | (simp; done))))
  go_upto_region 1 with (fail)
  try rw [hG]
  generalize hw0 : ((w.alloc (.cells #[.int .i64 cap, .int .i64 len, .slice a N c] 24)).alloc (.cells #[.int .i64 0, .int .i64 0, .slice none 0 0, .int .i64 0] 34)) = w0 at Kb Kr B ⊢
  clear hw0 hG
  obtain ⟨bbc0, bbc1, bbc2⟩ := three Kb.out
  obtain ⟨brc0, brc1, brc2, brc3⟩ := four Kr.out
  go_wp2_with fail
  refine (C.out _ (HP.out.mono B.out)).mono ?_
  rintro e w1 ⟨rfl, hb⟩
  replace Kb := Lib.hid (Kb.out.below hb Kb.out.lt)
  replace Kr := Lib.hid (Kr.out.below hb Kr.out.lt)
  replace B := Lib.hid (B.out.trans (hb.mono B.out.size))
  clear bbc0 bbc1 bbc2 brc0 brc1 brc2 brc3
  clear hb
  obtain ⟨bbc0, bbc1, bbc2⟩ := three Kb.out
  obtain ⟨brc0, brc1, brc2, brc3⟩ := four Kr.out
  go_wp2_with fail
  refine (C1.out _).mono ?_
  rintro e wz ⟨rfl, rfl⟩
  go_wp2_with fail
  refine (C2.out _).mono ?_
  rintro e wz ⟨rfl, rfl⟩
  go_wp2_with fail
  refine (RW.out _ (HP.out.mono B.out)).mono ?_
  rintro e w2 ⟨rfl, hb⟩
  replace Kb := Lib.hid (Kb.out.below hb Kb.out.lt)
  replace Kr := Lib.hid (Kr.out.below hb Kr.out.lt)
  replace B := Lib.hid (B.out.trans (hb.mono B.out.size))
  clear bbc0 bbc1 bbc2 brc0 brc1 brc2 brc3
  clear hb
  obtain ⟨bbc0, bbc1, bbc2⟩ := three Kb.out
  obtain ⟨brc0, brc1, brc2, brc3⟩ := four Kr.out
  obtain ⟨gx, hgx⟩ : ∃ G, w2.heap.size = G := ⟨_, rfl⟩
  have Kx := Lib.hid (show Blk (w2.alloc (.cells #[.int .i64 wi, .int .i64 ga, .int .i64 x3, .int .i64 x4] 72)) gx 72 #[.int .i64 wi, .int .i64 ga, .int .i64 x3, .int .i64 x4] from Blk.new' w2 _ _ _ hgx rfl)
  have Nbx := Lib.hid (show G < gx from by rw [← hgx]; exact Kb.out.lt)
  replace Kb := Lib.hid (Kb.out.alloc (.cells #[.int .i64 wi, .int .i64 ga, .int .i64 x3, .int .i64 x4] 72))
  have Nrx := Lib.hid (show G + 1 < gx from by rw [← hgx]; exact Kr.out.lt)
  replace Kr := Lib.hid (Kr.out.alloc (.cells #[.int .i64 wi, .int .i64 ga, .int .i64 x3, .int .i64 x4] 72))
  have Lx := Lib.hid (show w.heap.size ≤ gx from by rw [← hgx]; exact B.out.size)
  replace B := Lib.hid (B.out.alloc B.out.size (.cells #[.int .i64 wi, .int .i64 ga, .int .i64 x3, .int .i64 x4] 72))
  go_upto_region 4 with (fail)
  try rw [hgx]
  generalize hw : w2.alloc (.cells #[.int .i64 wi, .int .i64 ga, .int .i64 x3, .int .i64 x4] 72) = w3 at Kb Kr Kx  B ⊢
  clear bbc0 bbc1 bbc2 brc0 brc1 brc2 brc3
  clear hw hgx
  obtain ⟨bbc0, bbc1, bbc2⟩ := three Kb.out
  obtain ⟨brc0, brc1, brc2, brc3⟩ := four Kr.out
  obtain ⟨bxc0, bxc1, bxc2, bxc3⟩ := four Kx.out
  clear bbc0 bbc1 bbc2 brc0 brc1 brc2 brc3 bxc0 bxc1 bxc2 bxc3
  obtain ⟨bbc0, bbc1, bbc2⟩ := three Kb.out
  obtain ⟨brc0, brc1, brc2, brc3⟩ := four Kr.out
  obtain ⟨bxc0, bxc1, bxc2, bxc3⟩ := four Kx.out
  have fzx := fun q => Kx.out.frozen q
  replace Kx := Lib.hid (show Blk (w3.setCell ⟨gx, 3, none⟩ (.int .i64 n)) (gx) 72 #[.int .i64 wi, .int .i64 ga, .int .i64 x3, .int .i64 n] from Kx.out.set_ 3 _)
  replace Kb := Lib.hid (show Blk (w3.setCell ⟨gx, 3, none⟩ (.int .i64 n)) (G) _ _ from Kb.out.far (p := ⟨gx, 3, none⟩) (by have := Nbx.out; show G ≠ gx; omega) (.int .i64 n))
  replace Kr := Lib.hid (show Blk (w3.setCell ⟨gx, 3, none⟩ (.int .i64 n)) (G + 1) _ _ from Kr.out.far (p := ⟨gx, 3, none⟩) (by have := Nrx.out; show G + 1 ≠ gx; omega) (.int .i64 n))
  replace B := Lib.hid (show Below w.heap.size w (w3.setCell ⟨gx, 3, none⟩ (.int .i64 n)) from B.out.setCell (p := ⟨gx, 3, none⟩) Lx.out (.int .i64 n))
  go_upto_region 9 with (fail)
  generalize hw : (w3.setCell ⟨gx, 3, none⟩ (.int .i64 n)) = w4 at Kb Kr Kx B ⊢
  clear bbc0 bbc1 bbc2 brc0 brc1 brc2 brc3 bxc0 bxc1 bxc2 bxc3 fzx
  clear hw
  obtain ⟨bbc0, bbc1, bbc2⟩ := three Kb.out
  obtain ⟨brc0, brc1, brc2, brc3⟩ := four Kr.out
  obtain ⟨bxc0, bxc1, bxc2, bxc3⟩ := four Kx.out
  have Qr := Lib.hid Kr.out.lt
  go_wp2_with fail
  refine (PU.out _ (HP.out.mono B.out)).mono ?_
  rintro e w5 ⟨⟨ap, cp, rfl, hr, hf⟩, hb⟩
  have Zp := Lib.hid hr
  have Fp := Lib.hid hf
  replace Kb := Lib.hid (Kb.out.below hb Kb.out.lt)
  replace Kr := Lib.hid (Kr.out.below hb Kr.out.lt)
  replace Kx := Lib.hid (Kx.out.below hb Kx.out.lt)
  replace B := Lib.hid (B.out.trans (hb.mono B.out.size))
  clear bbc0 bbc1 bbc2 brc0 brc1 brc2 brc3 bxc0 bxc1 bxc2 bxc3
  clear hb hr hf
  obtain ⟨bbc0, bbc1, bbc2⟩ := three Kb.out
  obtain ⟨brc0, brc1, brc2, brc3⟩ := four Kr.out
  obtain ⟨bxc0, bxc1, bxc2, bxc3⟩ := four Kx.out
  have Rp := Zp
  clear Zp
  have Epr := Lib.hid (show ∀ p, ap = some p → p.block ≠ G + 1 from fun p hp => by have h1 := Fp.out p hp; have h2 := Qr.out; omega)
  clear Fp Qr
  clear bbc0 bbc1 bbc2 brc0 brc1 brc2 brc3 bxc0 bxc1 bxc2 bxc3
  obtain ⟨bbc0, bbc1, bbc2⟩ := three Kb.out
  obtain ⟨brc0, brc1, brc2, brc3⟩ := four Kr.out
  obtain ⟨bxc0, bxc1, bxc2, bxc3⟩ := four Kx.out
  have fzr := fun q => Kr.out.frozen q
  go_wp2
  have K9 := Lib.hid (Kr.out.setR (.int .i64 cap) (.int .i64 len) (.slice ap M cp) (.int .i64 0))
  have B9 := ((((B.out.setCell (p := ⟨G + 1, 0, none⟩) (show w.heap.size ≤ G + 1 by have := HG.out; omega) (.int .i64 cap)).setCell (p := ⟨G + 1, 1, none⟩) (show w.heap.size ≤ G + 1 by have := HG.out; omega) (.int .i64 len)).setCell (p := ⟨G + 1, 2, none⟩) (show w.heap.size ≤ G + 1 by have := HG.out; omega) (.slice ap M cp)).setCell (p := ⟨G + 1, 3, none⟩) (show w.heap.size ≤ G + 1 by have := HG.out; omega) (.int .i64 0))
  have Sp := (RowsA.far (RowsA.far (RowsA.far (RowsA.far Rp.out (p := ⟨G + 1, 0, none⟩) (Epr.out) (.int .i64 cap)) (p := ⟨G + 1, 1, none⟩) (Epr.out) (.int .i64 len)) (p := ⟨G + 1, 2, none⟩) (Epr.out) (.slice ap M cp)) (p := ⟨G + 1, 3, none⟩) (Epr.out) (.int .i64 0))
  generalize hw2 : ((((w5.setCell ⟨G + 1, 0, none⟩ (.int .i64 cap)).setCell ⟨G + 1, 1, none⟩ (.int .i64 len)).setCell ⟨G + 1, 2, none⟩ (.slice ap M cp)).setCell ⟨G + 1, 3, none⟩ (.int .i64 0)) = w9 at K9 B9 Sp ⊢
  clear bbc0 bbc1 bbc2 brc0 brc1 brc2 brc3 bxc0 bxc1 bxc2 bxc3 fzr
  clear hw2
  obtain ⟨d0, d1, d2, d3⟩ := four K9.out
  refine bodyPost_ret (by simp [results, Try.results15, go_sem, d0, d1, d2, d3]; try rfl) rfl ?_
  exact ⟨⟨ap, cp, rfl, Sp⟩, B9⟩
set_option maxRecDepth 100000 in
set_option maxHeartbeats 2000000 in
theorem retref_old (cap len : Int) (a : Option Addr) (c : Nat) (l : List Rw) (wi ga n : Int) (w : World) (hp : RwA w a l) (ok : OkB cap len l) (p1 : winOk wi) (p2 : gateOk ga) (p3 : 0 ≤ n ∧ n ≤ dealtL l wi ga) (h : n ≤ backL l wi ga) :
    Calls Try.prog 15 #[.agg #[.int .i64 cap, .int .i64 len, .slice a l.length c], .int .i64 wi, .int .i64 ga, .int .i64 n] w fun e w' => (∃ a' c', e = .returned (.agg #[.int .i64 cap, .int .i64 len, .slice a' (retL l wi ga n).length c', .int .i64 0]) ∧ RwA w' a' (retL l wi ga n)) ∧ Below w.heap.size w w' := by
  have HP := Lib.hid hp
  have hm := ok.head.2.2
  have bk := back_bd ok wi ga
  have C := Lib.hid (fun (X : World) (h : RwA X a l) => rvalid_yes ok a c X h)
  have C1 := Lib.hid (fun W => rwin_yes p1 W)
  have C2 := Lib.hid (fun W => rgate_yes p2 W)
  have RW := Lib.hid (fun (X : World) (h : RwA X a l) => rowref_any cap len a c l wi ga X h ok.ord (by have := ok.head.2.2; omega))
  simp only [rowL_is] at RW
  obtain ⟨x3, hx3⟩ : ∃ z, dealtL l wi ga = z := ⟨_, rfl⟩
  obtain ⟨x4, hx4⟩ : ∃ z, backL l wi ga = z := ⟨_, rfl⟩
  obtain ⟨hh, hhh⟩ : ∃ z, hasC (cR wi ga) l = z := ⟨_, rfl⟩
  simp only [hx3, hx4, hhh, encR] at RW
  obtain ⟨N, hN⟩ : ∃ N, l.length = N := ⟨_, rfl⟩
  simp only [hN] at C RW
  rw [hx3] at p3 bk
  rw [hx4] at bk
  have t1 : decide (n < 0) = false := decide_eq_false (by omega)
  have t2 : decide (x3 < n) = false := decide_eq_false (by omega)
  have hb : n ≤ x4 := by rw [← hx4]; omega
  have s1 : decide (n ≤ x4) = true := decide_eq_true hb
  have e : retL l wi ga n = l := ret_old (fun _ => by omega)
  rw [e, hN]
  clear h hb e hN
  clear bk hx3 hx4 hhh hp ok p1 p2 p3 hm
  go_enter Try.func15, Try.ntmps15
  obtain ⟨G, hG⟩ : ∃ G, w.heap.size = G := ⟨_, rfl⟩
  have HG := Lib.hid hG
  have Kb := Lib.hid (show Blk ((w.alloc (.cells #[.int .i64 cap, .int .i64 len, .slice a N c] 24)).alloc (.cells #[.int .i64 0, .int .i64 0, .slice none 0 0, .int .i64 0] 34)) (G) 24 #[.int .i64 cap, .int .i64 len, .slice a N c] from (Blk.new' _ _ _ _ hG rfl).alloc _)
  have Kr := Lib.hid (show Blk ((w.alloc (.cells #[.int .i64 cap, .int .i64 len, .slice a N c] 24)).alloc (.cells #[.int .i64 0, .int .i64 0, .slice none 0 0, .int .i64 0] 34)) (G + 1) 34 #[.int .i64 0, .int .i64 0, .slice none 0 0, .int .i64 0] from Blk.new' _ _ _ _ (by rw [World.size_alloc, hG]) rfl)
  have B := Lib.hid (show Below w.heap.size w ((w.alloc (.cells #[.int .i64 cap, .int .i64 len, .slice a N c] 24)).alloc (.cells #[.int .i64 0, .int .i64 0, .slice none 0 0, .int .i64 0] 34)) by (repeat' (first | (with_reducible exact Below.refl _ _) | (with_reducible assumption) | (with_reducible refine Below.alloc ?_ ?_ _) | (with_reducible refine Below.drew ?_) | (with_reducible refine below_dn ?_) | (with_reducible refine Below.setCell ?_ ?_ _) | (with_reducible exact Nat.le_refl _) | omega | (simp only [World.size_alloc, World.size_setCell, World.size_drew]; omega) | (simp; omega) | (simp; done))))
  go_upto_region 1 with (fail)
  try rw [hG]
  generalize hw0 : ((w.alloc (.cells #[.int .i64 cap, .int .i64 len, .slice a N c] 24)).alloc (.cells #[.int .i64 0, .int .i64 0, .slice none 0 0, .int .i64 0] 34)) = w0 at Kb Kr B ⊢
  clear hw0 hG
  obtain ⟨bbc0, bbc1, bbc2⟩ := three Kb.out
  obtain ⟨brc0, brc1, brc2, brc3⟩ := four Kr.out
  go_wp2_with fail
  refine (C.out _ (HP.out.mono B.out)).mono ?_
  rintro e w1 ⟨rfl, hb⟩
  replace Kb := Lib.hid (Kb.out.below hb Kb.out.lt)
  replace Kr := Lib.hid (Kr.out.below hb Kr.out.lt)
  replace B := Lib.hid (B.out.trans (hb.mono B.out.size))
  clear bbc0 bbc1 bbc2 brc0 brc1 brc2 brc3
  clear hb
  obtain ⟨bbc0, bbc1, bbc2⟩ := three Kb.out
  obtain ⟨brc0, brc1, brc2, brc3⟩ := four Kr.out
  go_wp2_with fail
  refine (C1.out _).mono ?_
  rintro e wz ⟨rfl, rfl⟩
  go_wp2_with fail
  refine (C2.out _).mono ?_
  rintro e wz ⟨rfl, rfl⟩
  go_wp2_with fail
  refine (RW.out _ (HP.out.mono B.out)).mono ?_
  rintro e w2 ⟨rfl, hb⟩
  replace Kb := Lib.hid (Kb.out.below hb Kb.out.lt)
  replace Kr := Lib.hid (Kr.out.below hb Kr.out.lt)
  replace B := Lib.hid (B.out.trans (hb.mono B.out.size))
  clear bbc0 bbc1 bbc2 brc0 brc1 brc2 brc3
  clear hb
  obtain ⟨bbc0, bbc1, bbc2⟩ := three Kb.out
  obtain ⟨brc0, brc1, brc2, brc3⟩ := four Kr.out
  obtain ⟨gx, hgx⟩ : ∃ G, w2.heap.size = G := ⟨_, rfl⟩
  have Kx := Lib.hid (show Blk (w2.alloc (.cells #[.int .i64 wi, .int .i64 ga, .int .i64 x3, .int .i64 x4] 72)) gx 72 #[.int .i64 wi, .int .i64 ga, .int .i64 x3, .int .i64 x4] from Blk.new' w2 _ _ _ hgx rfl)
  have Nbx := Lib.hid (show G < gx from by rw [← hgx]; exact Kb.out.lt)
  replace Kb := Lib.hid (Kb.out.alloc (.cells #[.int .i64 wi, .int .i64 ga, .int .i64 x3, .int .i64 x4] 72))
  have Nrx := Lib.hid (show G + 1 < gx from by rw [← hgx]; exact Kr.out.lt)
  replace Kr := Lib.hid (Kr.out.alloc (.cells #[.int .i64 wi, .int .i64 ga, .int .i64 x3, .int .i64 x4] 72))
  have Lx := Lib.hid (show w.heap.size ≤ gx from by rw [← hgx]; exact B.out.size)
  replace B := Lib.hid (B.out.alloc B.out.size (.cells #[.int .i64 wi, .int .i64 ga, .int .i64 x3, .int .i64 x4] 72))
  go_upto_region 4 with (fail)
  try rw [hgx]
  generalize hw : w2.alloc (.cells #[.int .i64 wi, .int .i64 ga, .int .i64 x3, .int .i64 x4] 72) = w3 at Kb Kr Kx  B ⊢
  clear bbc0 bbc1 bbc2 brc0 brc1 brc2 brc3
  clear hw hgx
  obtain ⟨bbc0, bbc1, bbc2⟩ := three Kb.out
  obtain ⟨brc0, brc1, brc2, brc3⟩ := four Kr.out
  obtain ⟨bxc0, bxc1, bxc2, bxc3⟩ := four Kx.out
  clear bbc0 bbc1 bbc2 brc0 brc1 brc2 brc3 bxc0 bxc1 bxc2 bxc3
  obtain ⟨bbc0, bbc1, bbc2⟩ := three Kb.out
  obtain ⟨brc0, brc1, brc2, brc3⟩ := four Kr.out
  obtain ⟨bxc0, bxc1, bxc2, bxc3⟩ := four Kx.out
  have fzr := fun q => Kr.out.frozen q
  go_wp2
  have K9 := Lib.hid (Kr.out.setR (.int .i64 cap) (.int .i64 len) (.slice a N c) (.int .i64 0))
  have B9 := ((((B.out.setCell (p := ⟨G + 1, 0, none⟩) (show w.heap.size ≤ G + 1 by have := HG.out; omega) (.int .i64 cap)).setCell (p := ⟨G + 1, 1, none⟩) (show w.heap.size ≤ G + 1 by have := HG.out; omega) (.int .i64 len)).setCell (p := ⟨G + 1, 2, none⟩) (show w.heap.size ≤ G + 1 by have := HG.out; omega) (.slice a N c)).setCell (p := ⟨G + 1, 3, none⟩) (show w.heap.size ≤ G + 1 by have := HG.out; omega) (.int .i64 0))
  generalize hw2 : ((((w3.setCell ⟨G + 1, 0, none⟩ (.int .i64 cap)).setCell ⟨G + 1, 1, none⟩ (.int .i64 len)).setCell ⟨G + 1, 2, none⟩ (.slice a N c)).setCell ⟨G + 1, 3, none⟩ (.int .i64 0)) = w9 at K9 B9 ⊢
  clear bbc0 bbc1 bbc2 brc0 brc1 brc2 brc3 bxc0 bxc1 bxc2 bxc3 fzr
  clear hw2
  obtain ⟨d0, d1, d2, d3⟩ := four K9.out
  refine bodyPost_ret (by simp [results, Try.results15, go_sem, d0, d1, d2, d3]; try rfl) rfl ?_
  exact ⟨⟨a, c, rfl, HP.out.mono B9⟩, B9⟩
end
section
open Go.RowKit Go.Sort
set_option maxRecDepth 100000 in
set_option maxHeartbeats 2000000 in
theorem forgetref_arg (cap len : Int) (a : Option Addr) (c : Nat) (l : List Rw) (lo hi : Int) (w : World) (hp : RwA w a l) (h : ¬ (OkB cap len l ∧ perB lo hi = true)) (hm : l.length ≤ 9223372036854775807) :
    Calls Try.prog 16 #[.agg #[.int .i64 cap, .int .i64 len, .slice a l.length c], per lo hi] w fun e w' => e = .returned (.agg #[.int .i64 0, .int .i64 0, .slice none 0 0, .int .i64 1]) ∧ Below w.heap.size w w' := by
  have HP := Lib.hid hp
  obtain ⟨N, hN⟩ : ∃ N, l.length = N := ⟨_, rfl⟩
  by_cases ok : OkB cap len l
  · have C := Lib.hid (fun (X : World) (h : RwA X a l) => rvalid_yes ok a c X h)
    simp only [hN] at C
    have PV := Lib.hid (fun X : World => pvalidref_any lo hi X)
    have e : perB lo hi = false := by
      cases q : perB lo hi
      · rfl
      · exact absurd ⟨ok, q⟩ h
    rw [e] at PV
    rw [hN]
    clear h ok hp hN hm e
    go_enter Try.func16, Try.ntmps16
    obtain ⟨G, hG⟩ : ∃ G, w.heap.size = G := ⟨_, rfl⟩
    have HG := Lib.hid hG
    have Kb := Lib.hid (show Blk (((w.alloc (.cells #[.int .i64 cap, .int .i64 len, .slice a N c] 24)).alloc (.cells #[.int .i64 lo, .int .i64 hi] 26)).alloc (.cells #[.int .i64 0, .int .i64 0, .slice none 0 0, .int .i64 0] 34)) (G) 24 #[.int .i64 cap, .int .i64 len, .slice a N c] from ((Blk.new' _ _ _ _ hG rfl).alloc _).alloc _)
    have Kp := Lib.hid (show Blk (((w.alloc (.cells #[.int .i64 cap, .int .i64 len, .slice a N c] 24)).alloc (.cells #[.int .i64 lo, .int .i64 hi] 26)).alloc (.cells #[.int .i64 0, .int .i64 0, .slice none 0 0, .int .i64 0] 34)) (G + 1) 26 #[.int .i64 lo, .int .i64 hi] from (Blk.new' _ _ _ _ (by rw [World.size_alloc, hG]) rfl).alloc _)
    have Kr := Lib.hid (show Blk (((w.alloc (.cells #[.int .i64 cap, .int .i64 len, .slice a N c] 24)).alloc (.cells #[.int .i64 lo, .int .i64 hi] 26)).alloc (.cells #[.int .i64 0, .int .i64 0, .slice none 0 0, .int .i64 0] 34)) (G + 1 + 1) 34 #[.int .i64 0, .int .i64 0, .slice none 0 0, .int .i64 0] from Blk.new' _ _ _ _ (by rw [World.size_alloc, World.size_alloc, hG]) rfl)
    have B := Lib.hid (show Below w.heap.size w (((w.alloc (.cells #[.int .i64 cap, .int .i64 len, .slice a N c] 24)).alloc (.cells #[.int .i64 lo, .int .i64 hi] 26)).alloc (.cells #[.int .i64 0, .int .i64 0, .slice none 0 0, .int .i64 0] 34)) by (repeat' (first | (with_reducible exact Below.refl _ _) | (with_reducible assumption) | (with_reducible refine Below.alloc ?_ ?_ _) | (with_reducible refine Below.drew ?_) | (with_reducible refine below_dn ?_) | (with_reducible refine Below.setCell ?_ ?_ _) | (with_reducible exact Nat.le_refl _) | omega | (simp only [World.size_alloc, World.size_setCell, World.size_drew]; omega) | (simp; omega) | (simp; done))))
    go_upto_region 1 with (fail)
    try rw [hG]
    generalize hw0 : (((w.alloc (.cells #[.int .i64 cap, .int .i64 len, .slice a N c] 24)).alloc (.cells #[.int .i64 lo, .int .i64 hi] 26)).alloc (.cells #[.int .i64 0, .int .i64 0, .slice none 0 0, .int .i64 0] 34)) = w0 at Kb Kp Kr B ⊢
    clear hw0 hG
    obtain ⟨bbc0, bbc1, bbc2⟩ := three Kb.out
    obtain ⟨bpc0, bpc1⟩ := twob Kp.out
    obtain ⟨brc0, brc1, brc2, brc3⟩ := four Kr.out
    go_wp2_with fail
    refine (C.out _ (HP.out.mono B.out)).mono ?_
    rintro e w1 ⟨rfl, hb⟩
    replace Kb := Lib.hid (Kb.out.below hb Kb.out.lt)
    replace Kp := Lib.hid (Kp.out.below hb Kp.out.lt)
    replace Kr := Lib.hid (Kr.out.below hb Kr.out.lt)
    replace B := Lib.hid (B.out.trans (hb.mono B.out.size))
    clear bbc0 bbc1 bbc2 bpc0 bpc1 brc0 brc1 brc2 brc3
    clear hb
    obtain ⟨bbc0, bbc1, bbc2⟩ := three Kb.out
    obtain ⟨bpc0, bpc1⟩ := twob Kp.out
    obtain ⟨brc0, brc1, brc2, brc3⟩ := four Kr.out
    go_wp2_with fail
    refine (PV.out _).mono ?_
    rintro e w2 ⟨rfl, hb⟩
    replace Kb := Lib.hid (Kb.out.below hb Kb.out.lt)
    replace Kp := Lib.hid (Kp.out.below hb Kp.out.lt)
    replace Kr := Lib.hid (Kr.out.below hb Kr.out.lt)
    replace B := Lib.hid (B.out.trans (hb.mono B.out.size))
    clear bbc0 bbc1 bbc2 bpc0 bpc1 brc0 brc1 brc2 brc3
    clear hb
    obtain ⟨bbc0, bbc1, bbc2⟩ := three Kb.out
    obtain ⟨bpc0, bpc1⟩ := twob Kp.out
    obtain ⟨brc0, brc1, brc2, brc3⟩ := four Kr.out
    clear bbc0 bbc1 bbc2 bpc0 bpc1 brc0 brc1 brc2 brc3
    obtain ⟨bbc0, bbc1, bbc2⟩ := three Kb.out
    obtain ⟨bpc0, bpc1⟩ := twob Kp.out
    obtain ⟨brc0, brc1, brc2, brc3⟩ := four Kr.out
    have fzr := fun q => Kr.out.frozen q
    go_wp2
    have K9 := Lib.hid (Kr.out.setR (.int .i64 0) (.int .i64 0) (.slice none 0 0) (.int .i64 1))
    have B9 := ((((B.out.setCell (p := ⟨G + 1 + 1, 0, none⟩) (show w.heap.size ≤ G + 1 + 1 by have := HG.out; omega) (.int .i64 0)).setCell (p := ⟨G + 1 + 1, 1, none⟩) (show w.heap.size ≤ G + 1 + 1 by have := HG.out; omega) (.int .i64 0)).setCell (p := ⟨G + 1 + 1, 2, none⟩) (show w.heap.size ≤ G + 1 + 1 by have := HG.out; omega) (.slice none 0 0)).setCell (p := ⟨G + 1 + 1, 3, none⟩) (show w.heap.size ≤ G + 1 + 1 by have := HG.out; omega) (.int .i64 1))
    generalize hw2 : ((((w2.setCell ⟨G + 1 + 1, 0, none⟩ (.int .i64 0)).setCell ⟨G + 1 + 1, 1, none⟩ (.int .i64 0)).setCell ⟨G + 1 + 1, 2, none⟩ (.slice none 0 0)).setCell ⟨G + 1 + 1, 3, none⟩ (.int .i64 1)) = w9 at K9 B9 ⊢
    clear bbc0 bbc1 bbc2 bpc0 bpc1 brc0 brc1 brc2 brc3 fzr
    clear hw2
    obtain ⟨d0, d1, d2, d3⟩ := four K9.out
    refine bodyPost_ret (by simp [results, Try.results16, go_sem, d0, d1, d2, d3]; try rfl) rfl ?_
    exact ⟨rfl, B9⟩
  · have C := Lib.hid (fun (X : World) (h : RwA X a l) => rvalid_no ok hm a c X h)
    simp only [hN] at C
    rw [hN]
    clear h ok hp hN hm
    go_enter Try.func16, Try.ntmps16
    obtain ⟨G, hG⟩ : ∃ G, w.heap.size = G := ⟨_, rfl⟩
    have HG := Lib.hid hG
    have Kb := Lib.hid (show Blk (((w.alloc (.cells #[.int .i64 cap, .int .i64 len, .slice a N c] 24)).alloc (.cells #[.int .i64 lo, .int .i64 hi] 26)).alloc (.cells #[.int .i64 0, .int .i64 0, .slice none 0 0, .int .i64 0] 34)) (G) 24 #[.int .i64 cap, .int .i64 len, .slice a N c] from ((Blk.new' _ _ _ _ hG rfl).alloc _).alloc _)
    have Kp := Lib.hid (show Blk (((w.alloc (.cells #[.int .i64 cap, .int .i64 len, .slice a N c] 24)).alloc (.cells #[.int .i64 lo, .int .i64 hi] 26)).alloc (.cells #[.int .i64 0, .int .i64 0, .slice none 0 0, .int .i64 0] 34)) (G + 1) 26 #[.int .i64 lo, .int .i64 hi] from (Blk.new' _ _ _ _ (by rw [World.size_alloc, hG]) rfl).alloc _)
    have Kr := Lib.hid (show Blk (((w.alloc (.cells #[.int .i64 cap, .int .i64 len, .slice a N c] 24)).alloc (.cells #[.int .i64 lo, .int .i64 hi] 26)).alloc (.cells #[.int .i64 0, .int .i64 0, .slice none 0 0, .int .i64 0] 34)) (G + 1 + 1) 34 #[.int .i64 0, .int .i64 0, .slice none 0 0, .int .i64 0] from Blk.new' _ _ _ _ (by rw [World.size_alloc, World.size_alloc, hG]) rfl)
    have B := Lib.hid (show Below w.heap.size w (((w.alloc (.cells #[.int .i64 cap, .int .i64 len, .slice a N c] 24)).alloc (.cells #[.int .i64 lo, .int .i64 hi] 26)).alloc (.cells #[.int .i64 0, .int .i64 0, .slice none 0 0, .int .i64 0] 34)) by (repeat' (first | (with_reducible exact Below.refl _ _) | (with_reducible assumption) | (with_reducible refine Below.alloc ?_ ?_ _) | (with_reducible refine Below.drew ?_) | (with_reducible refine below_dn ?_) | (with_reducible refine Below.setCell ?_ ?_ _) | (with_reducible exact Nat.le_refl _) | omega | (simp only [World.size_alloc, World.size_setCell, World.size_drew]; omega) | (simp; omega) | (simp; done))))
    go_upto_region 1 with (fail)
    try rw [hG]
    generalize hw0 : (((w.alloc (.cells #[.int .i64 cap, .int .i64 len, .slice a N c] 24)).alloc (.cells #[.int .i64 lo, .int .i64 hi] 26)).alloc (.cells #[.int .i64 0, .int .i64 0, .slice none 0 0, .int .i64 0] 34)) = w0 at Kb Kp Kr B ⊢
    clear hw0 hG
    obtain ⟨bbc0, bbc1, bbc2⟩ := three Kb.out
    obtain ⟨bpc0, bpc1⟩ := twob Kp.out
    obtain ⟨brc0, brc1, brc2, brc3⟩ := four Kr.out
    go_wp2_with fail
    refine (C.out _ (HP.out.mono B.out)).mono ?_
    rintro e w1 ⟨rfl, hb⟩
    replace Kb := Lib.hid (Kb.out.below hb Kb.out.lt)
    replace Kp := Lib.hid (Kp.out.below hb Kp.out.lt)
    replace Kr := Lib.hid (Kr.out.below hb Kr.out.lt)
    replace B := Lib.hid (B.out.trans (hb.mono B.out.size))
    clear bbc0 bbc1 bbc2 bpc0 bpc1 brc0 brc1 brc2 brc3
    clear hb
    obtain ⟨bbc0, bbc1, bbc2⟩ := three Kb.out
    obtain ⟨bpc0, bpc1⟩ := twob Kp.out
    obtain ⟨brc0, brc1, brc2, brc3⟩ := four Kr.out
    clear bbc0 bbc1 bbc2 bpc0 bpc1 brc0 brc1 brc2 brc3
    obtain ⟨bbc0, bbc1, bbc2⟩ := three Kb.out
    obtain ⟨bpc0, bpc1⟩ := twob Kp.out
    obtain ⟨brc0, brc1, brc2, brc3⟩ := four Kr.out
    have fzr := fun q => Kr.out.frozen q
    go_wp2
    have K9 := Lib.hid (Kr.out.setR (.int .i64 0) (.int .i64 0) (.slice none 0 0) (.int .i64 1))
    have B9 := ((((B.out.setCell (p := ⟨G + 1 + 1, 0, none⟩) (show w.heap.size ≤ G + 1 + 1 by have := HG.out; omega) (.int .i64 0)).setCell (p := ⟨G + 1 + 1, 1, none⟩) (show w.heap.size ≤ G + 1 + 1 by have := HG.out; omega) (.int .i64 0)).setCell (p := ⟨G + 1 + 1, 2, none⟩) (show w.heap.size ≤ G + 1 + 1 by have := HG.out; omega) (.slice none 0 0)).setCell (p := ⟨G + 1 + 1, 3, none⟩) (show w.heap.size ≤ G + 1 + 1 by have := HG.out; omega) (.int .i64 1))
    generalize hw2 : ((((w1.setCell ⟨G + 1 + 1, 0, none⟩ (.int .i64 0)).setCell ⟨G + 1 + 1, 1, none⟩ (.int .i64 0)).setCell ⟨G + 1 + 1, 2, none⟩ (.slice none 0 0)).setCell ⟨G + 1 + 1, 3, none⟩ (.int .i64 1)) = w9 at K9 B9 ⊢
    clear bbc0 bbc1 bbc2 bpc0 bpc1 brc0 brc1 brc2 brc3 fzr
    clear hw2
    obtain ⟨d0, d1, d2, d3⟩ := four K9.out
    refine bodyPost_ret (by simp [results, Try.results16, go_sem, d0, d1, d2, d3]; try rfl) rfl ?_
    exact ⟨rfl, B9⟩
set_option maxRecDepth 100000 in
set_option maxHeartbeats 4000000 in
theorem forgetref_ok (cap len : Int) (a : Option Addr) (c : Nat) (l : List Rw) (lo hi : Int) (w : World) (hp : RwA w a l) (ok : OkB cap len l) (p1 : perB lo hi = true) (hwn : ∀ x ∈ l, winOk x.1) :
    Calls Try.prog 16 #[.agg #[.int .i64 cap, .int .i64 len, .slice a l.length c], per lo hi] w fun e w' => (∃ a' c', e = .returned (.agg #[.int .i64 cap, .int .i64 len, .slice a' (forgetL l len lo).length c', .int .i64 0]) ∧ RwA w' a' (forgetL l len lo)) ∧ Below w.heap.size w w' := by
  have HP := Lib.hid hp
  have hl : 1 ≤ len ∧ len ≤ 3600000 := ok.head.2.1
  have hm : l.length ≤ 10000 := ok.head.2.2
  have C := Lib.hid (fun (X : World) (h : RwA X a l) => rvalid_yes ok a c X h)
  have PV := Lib.hid (fun X : World => pvalidref_any lo hi X)
  obtain ⟨q1, q2, q3⟩ := perB_yes p1
  have OV := Lib.hid (fun (x : Int) (h : winOk x) (X : World) => overref_any x len lo hi X h hl ⟨q1, by omega⟩)
  rw [p1] at PV
  obtain ⟨N, hN⟩ : ∃ N, l.length = N := ⟨_, rfl⟩
  have HE := Lib.hid hN
  simp only [hN] at C
  have HS := Lib.hid (fun (k : Nat) (hk : k < N) => filter_step (fun x => ! decide ((x.1 + 1) * len ≤ lo)) l k r0 (by rw [hN]; exact hk))
  have HM := Lib.hid (fun (k : Nat) (hk : k < N) => hwn (l.getD k r0) (by rw [getEl (by rw [hN]; exact hk)]; exact List.getElem_mem _))
  have FE := Lib.hid (show (l.take N).filter (fun x => ! decide ((x.1 + 1) * len ≤ lo)) = forgetL l len lo by rw [← hN, List.take_length]; rfl)
  have FL := Lib.hid (fun (k : Nat) => show ((l.take k).filter (fun x => ! decide ((x.1 + 1) * len ≤ lo))).length ≤ 10000 from Nat.le_trans (List.length_filter_le _ _) (by rw [List.length_take]; omega))
  rw [hN]
  rw [hN] at hm
  obtain ⟨L, hL⟩ : ∃ z, forgetL l len lo = z := ⟨_, rfl⟩
  obtain ⟨n6, hn6⟩ : ∃ n, L.length = n := ⟨_, rfl⟩
  rw [hL] at FE
  rw [hL, hn6]
  have HN6 := Lib.hid hn6
  clear hp ok p1 hwn q1 q2 q3 hl hN hL hn6
  go_enter Try.func16, Try.ntmps16
  obtain ⟨G, hG⟩ : ∃ G, w.heap.size = G := ⟨_, rfl⟩
  have HG := Lib.hid hG
  have Kb := Lib.hid (show Blk (((w.alloc (.cells #[.int .i64 cap, .int .i64 len, .slice a N c] 24)).alloc (.cells #[.int .i64 lo, .int .i64 hi] 26)).alloc (.cells #[.int .i64 0, .int .i64 0, .slice none 0 0, .int .i64 0] 34)) (G) 24 #[.int .i64 cap, .int .i64 len, .slice a N c] from ((Blk.new' _ _ _ _ hG rfl).alloc _).alloc _)
  have Kp := Lib.hid (show Blk (((w.alloc (.cells #[.int .i64 cap, .int .i64 len, .slice a N c] 24)).alloc (.cells #[.int .i64 lo, .int .i64 hi] 26)).alloc (.cells #[.int .i64 0, .int .i64 0, .slice none 0 0, .int .i64 0] 34)) (G + 1) 26 #[.int .i64 lo, .int .i64 hi] from (Blk.new' _ _ _ _ (by rw [World.size_alloc, hG]) rfl).alloc _)
  have Kr := Lib.hid (show Blk (((w.alloc (.cells #[.int .i64 cap, .int .i64 len, .slice a N c] 24)).alloc (.cells #[.int .i64 lo, .int .i64 hi] 26)).alloc (.cells #[.int .i64 0, .int .i64 0, .slice none 0 0, .int .i64 0] 34)) (G + 1 + 1) 34 #[.int .i64 0, .int .i64 0, .slice none 0 0, .int .i64 0] from Blk.new' _ _ _ _ (by rw [World.size_alloc, World.size_alloc, hG]) rfl)
  have B := Lib.hid (show Below w.heap.size w (((w.alloc (.cells #[.int .i64 cap, .int .i64 len, .slice a N c] 24)).alloc (.cells #[.int .i64 lo, .int .i64 hi] 26)).alloc (.cells #[.int .i64 0, .int .i64 0, .slice none 0 0, .int .i64 0] 34)) by (repeat' (first | (with_reducible exact Below.refl _ _) | (with_reducible assumption) | (with_reducible refine Below.alloc ?_ ?_ _) | (with_reducible refine Below.drew ?_) | (with_reducible refine below_dn ?_) | (with_reducible refine Below.setCell ?_ ?_ _) | (with_reducible exact Nat.le_refl _) | omega | (simp only [World.size_alloc, World.size_setCell, World.size_drew]; omega) | (simp; omega) | (simp; done))))
  go_upto_region 1 with (fail)
  try rw [hG]
  generalize hw0 : (((w.alloc (.cells #[.int .i64 cap, .int .i64 len, .slice a N c] 24)).alloc (.cells #[.int .i64 lo, .int .i64 hi] 26)).alloc (.cells #[.int .i64 0, .int .i64 0, .slice none 0 0, .int .i64 0] 34)) = w0 at Kb Kp Kr B ⊢
  clear hw0 hG
  obtain ⟨bbc0, bbc1, bbc2⟩ := three Kb.out
  obtain ⟨bpc0, bpc1⟩ := twob Kp.out
  obtain ⟨brc0, brc1, brc2, brc3⟩ := four Kr.out
  go_wp2_with fail
  refine (C.out _ (HP.out.mono B.out)).mono ?_
  rintro e w1 ⟨rfl, hb⟩
  replace Kb := Lib.hid (Kb.out.below hb Kb.out.lt)
  replace Kp := Lib.hid (Kp.out.below hb Kp.out.lt)
  replace Kr := Lib.hid (Kr.out.below hb Kr.out.lt)
  replace B := Lib.hid (B.out.trans (hb.mono B.out.size))
  clear bbc0 bbc1 bbc2 bpc0 bpc1 brc0 brc1 brc2 brc3
  clear hb
  obtain ⟨bbc0, bbc1, bbc2⟩ := three Kb.out
  obtain ⟨bpc0, bpc1⟩ := twob Kp.out
  obtain ⟨brc0, brc1, brc2, brc3⟩ := four Kr.out
  go_wp2_with fail
  refine (PV.out _).mono ?_
  rintro e w2 ⟨rfl, hb⟩
  replace Kb := Lib.hid (Kb.out.below hb Kb.out.lt)
  replace Kp := Lib.hid (Kp.out.below hb Kp.out.lt)
  replace Kr := Lib.hid (Kr.out.below hb Kr.out.lt)
  replace B := Lib.hid (B.out.trans (hb.mono B.out.size))
  clear bbc0 bbc1 bbc2 bpc0 bpc1 brc0 brc1 brc2 brc3
  clear hb
  obtain ⟨bbc0, bbc1, bbc2⟩ := three Kb.out
  obtain ⟨bpc0, bpc1⟩ := twob Kp.out
  obtain ⟨brc0, brc1, brc2, brc3⟩ := four Kr.out
  obtain ⟨Z, hZ⟩ : ∃ Z, w2.heap.size = Z := ⟨_, rfl⟩
  have HZ := Lib.hid (show G + 1 + 1 < Z from by have := Kr.out.lt; omega)
  have hZ0 : Z ≤ w2.heap.size := by omega
  clear hZ C PV
  go_wp2
  clear bbc0 bbc1 bbc2 bpc0 bpc1 brc0 brc1 brc2 brc3
  go_loopw [5, 6] (fun u5 u6 wr => ∃ k : Nat, k ≤ N ∧ u6 = .int .i64 k ∧ Hid (Ro.OwnA wr Z u5 ((l.take k).filter (fun x => ! decide ((x.1 + 1) * len ≤ lo)))) ∧ Z ≤ wr.heap.size ∧ Hid (Blk wr (G) 24 #[.int .i64 cap, .int .i64 len, .slice a N c]) ∧ Hid (Blk wr (G + 1) 26 #[.int .i64 lo, .int .i64 hi]) ∧ Hid (Blk wr (G + 1 + 1) 34 #[.int .i64 0, .int .i64 0, .slice none 0 0, .int .i64 0]) ∧ Hid (Below w.heap.size w wr)) (fun _ u6 _ => (N - intOf u6).toNat)
  case atStart => exact ⟨0, by omega, rfl, Lib.hid (by simpa using OwnR.nil _ _ _ _ _), hZ0, Kb, Kp, Kr, B⟩
  case round =>
    clear Kb Kp Kr B hZ0
    obtain ⟨k, hk, rfl, ho, hzr, Kb, Kp, Kr, B⟩ := hrel
    obtain ⟨bbc0, bbc1, bbc2⟩ := three Kb.out
    obtain ⟨bpc0, bpc1⟩ := twob Kp.out
    obtain ⟨brc0, brc1, brc2, brc3⟩ := four Kr.out
    by_cases hlt : k < N
    · have t0 : decide ((k : Int) < (N : Int)) = true := decide_eq_true (by omega)
      have wk : IntKind.i64.wrap ((k : Int) + 1) = (k : Int) + 1 := by rw [IntKind.wrap_i64]; omega
      have HP0 := Lib.hid (HP.out.mono B.out)
      obtain ⟨b, off, rfl, q0, q1, q2, q3⟩ := RwA.at_ HP0.out (k := k) (by rw [HE.out]; exact hlt)
      have HW := Lib.hid (HM.out k hlt)
      obtain ⟨y, hy⟩ : ∃ y, l.getD k r0 = y := ⟨_, rfl⟩
      have HY := Lib.hid hy
      rw [hy] at q0 q1 q2 q3 HW
      clear hy
      obtain ⟨x1, x2, x3, x4⟩ := y
      simp only at q0 q1 q2 q3 HW
      have k0 : (0 : Int) ≤ (k : Int) := by omega
      have kN : (k : Int) < (N : Int) := by omega
      clear bbc0 bbc1 bbc2 bpc0 bpc1 brc0 brc1 brc2 brc3
      by_cases hg : (x1 + 1) * len ≤ lo
      · have t1 : decide ((x1 + 1) * len ≤ lo) = true := by simpa using hg
        have hs := HS.out k hlt
        simp only [HY.out, t1, Bool.not_true, Bool.false_eq_true, if_false, List.append_nil] at hs
        have HST := Lib.hid hs
        have O := Lib.hid (fun X : World => OV.out x1 HW.out X)
        simp only [t1] at O
        clear hg t1 hs
        have QO := Lib.hid (fun (d : Nat) (os : Array Obj) => O.out (grow (redrawn wr d) os))
        obtain ⟨bbc0, bbc1, bbc2⟩ := three Kb.out
        obtain ⟨bpc0, bpc1⟩ := twob Kp.out
        obtain ⟨brc0, brc1, brc2, brc3⟩ := four Kr.out
        have gc := grow_cell3
        have zzb := Kb.out.lt
        have zzp := Kp.out.lt
        have zzr := Kr.out.lt
        have zq := RwA.blk_lt HP0.out (by rw [HE.out]; exact hlt) rfl
        go_wp2_with fail
        refine wp_region_quiet_below (by kernel_rfl) (by kernel_rfl) ?_
        repeat (go_big_quiet_step (first | (with_reducible exact Calls.regrown_of (QO.out _ _))))
        refine wpQuiet_nil ?_
        intro w6 hw'
        obtain ⟨⟨dq, osq⟩, hw''⟩ := hw'
        have hb := below_of_grow3 hw''
        clear hw'' gc zzb zzp zzr zq QO O q0 q1 q2 q3
        replace ho := Lib.hid (OwnR.below ho.out hb)
        have hz6 : Z ≤ w6.heap.size := Nat.le_trans hzr hb.size
        replace HP0 := Lib.hid (HP0.out.mono hb)
        replace Kb := Lib.hid (Kb.out.below hb Kb.out.lt)
        replace Kp := Lib.hid (Kp.out.below hb Kp.out.lt)
        replace Kr := Lib.hid (Kr.out.below hb Kr.out.lt)
        replace B := Lib.hid (B.out.trans (hb.mono B.out.size))
        clear hb hzr
        clear bbc0 bbc1 bbc2 bpc0 bpc1 brc0 brc1 brc2 brc3
        obtain ⟨bbc0, bbc1, bbc2⟩ := three Kb.out
        obtain ⟨bpc0, bpc1⟩ := twob Kp.out
        obtain ⟨brc0, brc1, brc2, brc3⟩ := four Kr.out
        go_wp2
        go_roundw
        case rel => exact ⟨k + 1, by omega, by go_num, by rw [HST.out]; exact ho, hz6, Kb, Kp, Kr, B⟩
        case measure => simp [intOf]; omega
      · have t1 : decide ((x1 + 1) * len ≤ lo) = false := by simpa using hg
        have hs := HS.out k hlt
        simp only [HY.out, t1, Bool.not_false, if_true] at hs
        have HST := Lib.hid hs
        have O := Lib.hid (fun X : World => OV.out x1 HW.out X)
        simp only [t1] at O
        clear hg t1 hs
        have QO := Lib.hid (fun (d : Nat) (os : Array Obj) => O.out (grow (redrawn wr d) os))
        obtain ⟨bbc0, bbc1, bbc2⟩ := three Kb.out
        obtain ⟨bpc0, bpc1⟩ := twob Kp.out
        obtain ⟨brc0, brc1, brc2, brc3⟩ := four Kr.out
        have gc := grow_cell3
        have zzb := Kb.out.lt
        have zzp := Kp.out.lt
        have zzr := Kr.out.lt
        have zq := RwA.blk_lt HP0.out (by rw [HE.out]; exact hlt) rfl
        go_wp2_with fail
        refine wp_region_quiet_below (by kernel_rfl) (by kernel_rfl) ?_
        repeat (go_big_quiet_step (first | (with_reducible exact Calls.regrown_of (QO.out _ _))))
        refine wpQuiet_nil ?_
        intro w6 hw'
        obtain ⟨⟨dq, osq⟩, hw''⟩ := hw'
        have hb := below_of_grow3 hw''
        clear hw'' gc zzb zzp zzr zq QO O q0 q1 q2 q3
        replace ho := Lib.hid (OwnR.below ho.out hb)
        have hz6 : Z ≤ w6.heap.size := Nat.le_trans hzr hb.size
        replace HP0 := Lib.hid (HP0.out.mono hb)
        replace Kb := Lib.hid (Kb.out.below hb Kb.out.lt)
        replace Kp := Lib.hid (Kp.out.below hb Kp.out.lt)
        replace Kr := Lib.hid (Kr.out.below hb Kr.out.lt)
        replace B := Lib.hid (B.out.trans (hb.mono B.out.size))
        clear hb hzr
        clear bbc0 bbc1 bbc2 bpc0 bpc1 brc0 brc1 brc2 brc3
        obtain ⟨bbc0, bbc1, bbc2⟩ := three Kb.out
        obtain ⟨bpc0, bpc1⟩ := twob Kp.out
        obtain ⟨brc0, brc1, brc2, brc3⟩ := four Kr.out
        obtain ⟨e1, e2, e3, e4⟩ := RwA.cells_ HP0.out (k := k) (by rw [HE.out]; exact hlt) rfl
        rw [HY.out] at e1 e2 e3 e4
        simp only at e1 e2 e3 e4
        obtain ⟨b1, n1, c1, w7, hr1, ho1, hb1, -⟩ := app_oneR w6 Z u5 _ x1 x2 x3 x4 ho.out (by have := FL.out k; omega) hz6
        have HR1 := Lib.hid hr1
        have z7 : Z ≤ w7.heap.size := Nat.le_trans hz6 hb1.size
        have Kb7 := Lib.hid (show Blk w7 (G) 24 _ from (hb1.block (G) (by have := HZ.out; omega)).trans Kb.out)
        have Kp7 := Lib.hid (show Blk w7 (G + 1) 26 _ from (hb1.block (G + 1) (by have := HZ.out; omega)).trans Kp.out)
        have Kr7 := Lib.hid (show Blk w7 (G + 1 + 1) 34 _ from (hb1.block (G + 1 + 1) (by have := HZ.out; omega)).trans Kr.out)
        have B7 := Lib.hid (B.out.trans (hb1.mono (by have := HZ.out; have := HG.out; omega)))
        have OF := Lib.hid (show Ro.OwnA w7 Z (.slice b1 n1 c1) ((l.take (k + 1)).filter (fun x => ! decide ((x.1 + 1) * len ≤ lo))) by rw [HST.out]; exact ho1)
        clear hr1 ho1 hb1 ho
        go_wp2_with (at_builtin; refine wpList_app_run rfl _ _ 22 22 rfl _ _ _ w7 rfl rfl HR1.out ?_)
        go_roundw
        case rel => exact ⟨k + 1, by omega, by go_num, OF, z7, Kb7, Kp7, Kr7, B7⟩
        case measure => simp [intOf]; omega
    · have hkN : N = k := by omega
      subst hkN
      clear hlt hk
      have ho2 := ho.out
      rw [FE.out] at ho2
      obtain ⟨a6, c6, e6, -, -⟩ := OwnR.view encR_len ho2
      rw [HN6.out] at e6
      subst e6
      have O6 := Lib.hid ho2
      clear ho2 ho
      replace O6 := Lib.hid (OwnR.far O6.out (p := ⟨G, 2, none⟩) (show G < Z by have := HZ.out; omega) (.slice a6 n6 c6))
      obtain ⟨bbc0, bbc1, bbc2⟩ := three Kb.out
      obtain ⟨bpc0, bpc1⟩ := twob Kp.out
      obtain ⟨brc0, brc1, brc2, brc3⟩ := four Kr.out
      have fzb := fun q => Kb.out.frozen q
      replace Kb := Lib.hid (show Blk (wr.setCell ⟨G, 2, none⟩ (.slice a6 n6 c6)) (G) 24 #[.int .i64 cap, .int .i64 len, .slice a6 n6 c6] from Kb.out.set_ 2 _)
      replace Kp := Lib.hid (Kp.out.far (p := ⟨G, 2, none⟩) (by simp; try omega) (.slice a6 n6 c6))
      replace Kr := Lib.hid (Kr.out.far (p := ⟨G, 2, none⟩) (by simp; try omega) (.slice a6 n6 c6))
      replace B := Lib.hid (B.out.setCell (p := ⟨G, 2, none⟩) (show w.heap.size ≤ G by have := HG.out; omega) (.slice a6 n6 c6))
      go_upto_region 10 with (fail)
      generalize hw7 : (wr.setCell ⟨G, 2, none⟩ (.slice a6 n6 c6)) = w7 at O6 Kb Kp Kr B ⊢
      clear bbc0 bbc1 bbc2 bpc0 bpc1 brc0 brc1 brc2 brc3 fzb
      clear hw7
      obtain ⟨bbc0, bbc1, bbc2⟩ := three Kb.out
      obtain ⟨bpc0, bpc1⟩ := twob Kp.out
      obtain ⟨brc0, brc1, brc2, brc3⟩ := four Kr.out
      have fzr := fun q => Kr.out.frozen q
      go_wp2
      have K9 := Lib.hid (Kr.out.setR (.int .i64 cap) (.int .i64 len) (.slice a6 n6 c6) (.int .i64 0))
      have B9 := ((((B.out.setCell (p := ⟨G + 1 + 1, 0, none⟩) (show w.heap.size ≤ G + 1 + 1 by have := HG.out; omega) (.int .i64 cap)).setCell (p := ⟨G + 1 + 1, 1, none⟩) (show w.heap.size ≤ G + 1 + 1 by have := HG.out; omega) (.int .i64 len)).setCell (p := ⟨G + 1 + 1, 2, none⟩) (show w.heap.size ≤ G + 1 + 1 by have := HG.out; omega) (.slice a6 n6 c6)).setCell (p := ⟨G + 1 + 1, 3, none⟩) (show w.heap.size ≤ G + 1 + 1 by have := HG.out; omega) (.int .i64 0))
      have O9 := (OwnR.far (OwnR.far (OwnR.far (OwnR.far O6.out (p := ⟨G + 1 + 1, 0, none⟩) (show G + 1 + 1 < Z by have := HZ.out; omega) (.int .i64 cap)) (p := ⟨G + 1 + 1, 1, none⟩) (show G + 1 + 1 < Z by have := HZ.out; omega) (.int .i64 len)) (p := ⟨G + 1 + 1, 2, none⟩) (show G + 1 + 1 < Z by have := HZ.out; omega) (.slice a6 n6 c6)) (p := ⟨G + 1 + 1, 3, none⟩) (show G + 1 + 1 < Z by have := HZ.out; omega) (.int .i64 0))
      generalize hw2 : ((((w7.setCell ⟨G + 1 + 1, 0, none⟩ (.int .i64 cap)).setCell ⟨G + 1 + 1, 1, none⟩ (.int .i64 len)).setCell ⟨G + 1 + 1, 2, none⟩ (.slice a6 n6 c6)).setCell ⟨G + 1 + 1, 3, none⟩ (.int .i64 0)) = w9 at K9 B9 O9 ⊢
      clear bbc0 bbc1 bbc2 bpc0 bpc1 brc0 brc1 brc2 brc3 fzr
      clear hw2
      obtain ⟨d0, d1, d2, d3⟩ := four K9.out
      obtain ⟨av, cv, ev, -, hv⟩ := OwnR.view encR_len O9
      injection ev with ev1 ev2 ev3
      have HV := Lib.hid hv
      clear hv ev2 ev3
      refine bodyPost_ret (by simp [results, Try.results16, go_sem, d0, d1, d2, d3]; try rfl) rfl ?_
      exact ⟨⟨a6, c6, rfl, by rw [ev1]; exact HV.out⟩, B9⟩
end
section
open Go.RowKit Go.Sort
theorem dealL_len (l : List Rw) (w g n : Int) : (dealL l w g n).length ≤ l.length + 1 := by
  unfold dealL
  split
  · rw [List.length_set]; omega
  · rw [insL_len _ _ _ (posC_le _ _)]; exact Nat.le_refl _
theorem retL_len (l : List Rw) (w g n : Int) : (retL l w g n).length ≤ l.length := by
  unfold retL
  split
  · rw [List.length_set]; exact Nat.le_refl _
  · exact Nat.le_refl _
/-- The program's function p and the reference's q give the same, whatever that is. -/
def BothB (p q : FuncId) (args : Array Value) (a : Option Addr) (l : List Rw) : Prop :=
  ∃ (c1 l1 : Int) (L : List Rw) (e1 : Int), L.length ≤ 9223372036854775807 ∧
    (∀ X, RwA X a l → Calls Try.prog p args X fun e w' => (∃ a' c', e = .returned (.tuple #[.agg #[.int .i64 c1, .int .i64 l1, .slice a' L.length c'], .int .i64 e1]) ∧ RwA w' a' L) ∧ Below X.heap.size X w') ∧
    ∀ X, RwA X a l → Calls Try.prog q args X fun e w' => (∃ a' c', e = .returned (.agg #[.int .i64 c1, .int .i64 l1, .slice a' L.length c', .int .i64 e1]) ∧ RwA w' a' L) ∧ Below X.heap.size X w'
theorem BothB.err {p q : FuncId} {args : Array Value} {a : Option Addr} {l : List Rw} (n : Int) (h1 : ∀ X, RwA X a l → Calls Try.prog p args X fun e w' => e = .returned (.tuple #[.agg #[.int .i64 0, .int .i64 0, .slice none 0 0], .int .i64 n]) ∧ Below X.heap.size X w')
    (h2 : ∀ X, RwA X a l → Calls Try.prog q args X fun e w' => e = .returned (.agg #[.int .i64 0, .int .i64 0, .slice none 0 0, .int .i64 n]) ∧ Below X.heap.size X w') : BothB p q args a l :=
  ⟨0, 0, [], n, by simp, fun X hX => (h1 X hX).mono fun e w' ⟨he, hb⟩ => ⟨⟨none, 0, he, RowsA.nil _ _ _ _⟩, hb⟩, fun X hX => (h2 X hX).mono fun e w' ⟨he, hb⟩ => ⟨⟨none, 0, he, RowsA.nil _ _ _ _⟩, hb⟩⟩
theorem new_both (cap len : Int) (a : Option Addr) (c : Nat) (l : List Rw)  : BothB 9 13 #[.int .i64 cap, .int .i64 len] a l := by
  by_cases ok : OkB cap len []
  · exact ⟨cap, len, [], 0, by simp, fun X hX => (newbank_yes cap len X ok).mono fun e w' ⟨he, hb⟩ => ⟨⟨none, 0, he, RowsA.nil _ _ _ _⟩, hb⟩, fun X hX => (newbankref_yes cap len X ok).mono fun e w' ⟨he, hb⟩ => ⟨⟨none, 0, he, RowsA.nil _ _ _ _⟩, hb⟩⟩
  · exact BothB.err 1 (fun X _ => newbank_no cap len X ok) (fun X _ => newbankref_no cap len X ok)
theorem deal_both (cap len wi ga n : Int) (a : Option Addr) (c : Nat) (l : List Rw) (hm : l.length ≤ 1000000) : BothB 10 14 #[.agg #[.int .i64 cap, .int .i64 len, .slice a l.length c], .int .i64 wi, .int .i64 ga, .int .i64 n] a l := by
  by_cases h : OkB cap len l ∧ winOk wi ∧ gateOk ga ∧ 1 ≤ n ∧ n ≤ 1073741824
  · obtain ⟨ok, p1, p2, p3⟩ := h
    by_cases h2 : cap < outL l wi + n ∨ 1099511627776 < dealtL l wi ga + n ∨ (hasC (cR wi ga) l = false ∧ 10000 ≤ l.length)
    · exact BothB.err 2 (fun X hX => deal_limit cap len a c l wi ga n X hX ok p1 p2 p3 h2) (fun X hX => dealref_limit cap len a c l wi ga n X hX ok p1 p2 p3 h2)
    · exact ⟨cap, len, dealL l wi ga n, 0, by have := dealL_len l wi ga n; omega, fun X hX => (deal_ok cap len a c l wi ga n X hX ok p1 p2 p3 h2).mono (fun e w' ⟨⟨a', c', he, hr, _⟩, hb⟩ => ⟨⟨a', c', he, hr⟩, hb⟩), fun X hX => dealref_ok cap len a c l wi ga n X hX ok p1 p2 p3 h2⟩
  · exact BothB.err 1 (fun X hX => deal_arg cap len a c l wi ga n X hX (by omega) h) (fun X hX => dealref_arg cap len a c l wi ga n X hX h (by omega))
theorem ret_both (cap len wi ga n : Int) (a : Option Addr) (c : Nat) (l : List Rw) (hm : l.length ≤ 1000000) : BothB 11 15 #[.agg #[.int .i64 cap, .int .i64 len, .slice a l.length c], .int .i64 wi, .int .i64 ga, .int .i64 n] a l := by
  by_cases h : OkB cap len l ∧ winOk wi ∧ gateOk ga ∧ 0 ≤ n ∧ n ≤ dealtL l wi ga
  · obtain ⟨ok, p1, p2, p3⟩ := h
    refine ⟨cap, len, retL l wi ga n, 0, by have := retL_len l wi ga n; omega, fun X hX => (ret_ok cap len a c l wi ga n X hX ok p1 p2 p3).mono (fun e w' ⟨⟨a', c', he, hr, _⟩, hb⟩ => ⟨⟨a', c', he, hr⟩, hb⟩), fun X hX => ?_⟩
    by_cases h2 : n ≤ backL l wi ga
    · exact retref_old cap len a c l wi ga n X hX ok p1 p2 p3 h2
    · exact retref_new cap len a c l wi ga n X hX ok p1 p2 p3 (by omega)
  · exact BothB.err 1 (fun X hX => ret_arg cap len a c l wi ga n X hX (by omega) h) (fun X hX => retref_arg cap len a c l wi ga n X hX h (by omega))
theorem forget_both (cap len lo hi : Int) (a : Option Addr) (c : Nat) (l : List Rw) (hm : l.length ≤ 1000000) : BothB 12 16 #[.agg #[.int .i64 cap, .int .i64 len, .slice a l.length c], per lo hi] a l := by
  by_cases h : OkB cap len l ∧ perB lo hi = true
  · obtain ⟨ok, p1⟩ := h
    have hw : ∀ x ∈ l, winOk x.1 := fun x hx => (ok.v.rows x hx).1
    exact ⟨cap, len, forgetL l len lo, 0, by have := List.length_filter_le (fun x : Rw => ! decide ((x.1 + 1) * len ≤ lo)) l; unfold forgetL; omega, fun X hX => (forget_ok cap len a c l lo hi X hX ok p1 hw).mono (fun e w' ⟨⟨a', c', he, hr, _⟩, hb⟩ => ⟨⟨a', c', he, hr⟩, hb⟩), fun X hX => forgetref_ok cap len a c l lo hi X hX ok p1 hw⟩
  · exact BothB.err 1 (fun X hX => forget_arg cap len a c l lo hi X hX (by omega) h) (fun X hX => forgetref_arg cap len a c l lo hi X hX h (by omega))
theorem valid_both (cap len : Int) (a : Option Addr) (c : Nat) (l : List Rw) (hm : l.length ≤ 1000000) : ∃ v : Bool, (∀ X, RwA X a l → Calls Try.prog 17 #[.agg #[.int .i64 cap, .int .i64 len, .slice a l.length c]] X fun e w' => e = .returned (.bool v) ∧ Below X.heap.size X w') ∧ ∀ X, RwA X a l → Calls Try.prog 18 #[.agg #[.int .i64 cap, .int .i64 len, .slice a l.length c]] X fun e w' => e = .returned (.bool v) ∧ Below X.heap.size X w' := by
  by_cases ok : OkB cap len l
  · exact ⟨_, fun X hX => valid_yes ok a c X hX, fun X hX => rvalid_yes ok a c X hX⟩
  · exact ⟨_, fun X hX => valid_no ok (by omega) a c X hX, fun X hX => rvalid_no ok (by omega) a c X hX⟩
theorem dealt_both (cap len wi ga : Int) (a : Option Addr) (c : Nat) (l : List Rw) (hm : l.length ≤ 1000000) : ∃ v : Int, (∀ X, RwA X a l → Calls Try.prog 20 #[.agg #[.int .i64 cap, .int .i64 len, .slice a l.length c], .int .i64 wi, .int .i64 ga] X fun e w' => e = .returned (.int .i64 v) ∧ Below X.heap.size X w') ∧ ∀ X, RwA X a l → Calls Try.prog 21 #[.agg #[.int .i64 cap, .int .i64 len, .slice a l.length c], .int .i64 wi, .int .i64 ga] X fun e w' => e = .returned (.int .i64 v) ∧ Below X.heap.size X w' := by
  by_cases ok : OkB cap len l
  · exact ⟨_, fun X hX => dealt_any cap len a c l wi ga X hX ok, fun X hX => dealtr_any cap len a c l wi ga X hX ok⟩
  · exact ⟨_, fun X hX => dealt_no cap len a c l wi ga X hX ok hm, fun X hX => dealtr_no cap len a c l wi ga X hX ok (by omega)⟩
theorem out_both (cap len wi : Int) (a : Option Addr) (c : Nat) (l : List Rw) (hm : l.length ≤ 1000000) : ∃ v : Int, (∀ X, RwA X a l → Calls Try.prog 22 #[.agg #[.int .i64 cap, .int .i64 len, .slice a l.length c], .int .i64 wi] X fun e w' => e = .returned (.int .i64 v) ∧ Below X.heap.size X w') ∧ ∀ X, RwA X a l → Calls Try.prog 23 #[.agg #[.int .i64 cap, .int .i64 len, .slice a l.length c], .int .i64 wi] X fun e w' => e = .returned (.int .i64 v) ∧ Below X.heap.size X w' := by
  by_cases ok : OkB cap len l
  · exact ⟨_, fun X hX => out_any cap len a c l wi X hX ok, fun X hX => outr_any cap len a c l wi X hX ok⟩
  · exact ⟨_, fun X hX => out_no cap len a c l wi X hX ok (by omega), fun X hX => outr_no cap len a c l wi X hX ok (by omega)⟩
end
section
open Go.RowKit Go.Sort
set_option maxRecDepth 100000 in
set_option maxHeartbeats 2000000 in
theorem law3_some (cap len : Int) (a : Option Addr) (c : Nat) (l : List Rw) (wi ga n : Int) (lo hi : Int) (w : World) (hp : RwA w a l) (h : 40 < l.length) (h2 : l.length < 10000) : Calls Try.prog 3 #[.agg #[.int .i64 cap, .int .i64 len, .slice a l.length c], .int .i64 wi, .int .i64 ga, .int .i64 n, per lo hi] w fun e w' => e = .returned (.bool true) ∧ Below w.heap.size w w' := by
  have HP := Lib.hid hp
  have SN := Lib.hid (fun X : World => sanity_any X)
  obtain ⟨N, hN⟩ : ∃ N, l.length = N := ⟨_, rfl⟩
  rw [hN] at h h2 ⊢
  have t1 : decide ((40 : Int) < (N : Int)) = true := decide_eq_true (by omega)
  have t2 : decide ((N : Int) < (10000 : Int)) = true := decide_eq_true (by omega)
  clear hp hN h h2
  go_enter Try.func3, Try.ntmps3
  obtain ⟨G, hG⟩ : ∃ G, w.heap.size = G := ⟨_, rfl⟩
  have HG := Lib.hid hG
  have Kb := Lib.hid (show Blk ((w.alloc (.cells #[.int .i64 cap, .int .i64 len, .slice a N c] 24)).alloc (.cells #[.int .i64 lo, .int .i64 hi] 26)) (G) 24 #[.int .i64 cap, .int .i64 len, .slice a N c] from (Blk.new' _ _ _ _ hG rfl).alloc _)
  have Kp := Lib.hid (show Blk ((w.alloc (.cells #[.int .i64 cap, .int .i64 len, .slice a N c] 24)).alloc (.cells #[.int .i64 lo, .int .i64 hi] 26)) (G + 1) 26 #[.int .i64 lo, .int .i64 hi] from Blk.new' _ _ _ _ (by rw [World.size_alloc, hG]) rfl)
  have B := Lib.hid (show Below w.heap.size w ((w.alloc (.cells #[.int .i64 cap, .int .i64 len, .slice a N c] 24)).alloc (.cells #[.int .i64 lo, .int .i64 hi] 26)) by (repeat' (first | (with_reducible exact Below.refl _ _) | (with_reducible assumption) | (with_reducible refine Below.alloc ?_ ?_ _) | (with_reducible refine Below.drew ?_) | (with_reducible refine below_dn ?_) | (with_reducible refine Below.setCell ?_ ?_ _) | (with_reducible exact Nat.le_refl _) | omega | (simp only [World.size_alloc, World.size_setCell, World.size_drew]; omega) | (simp; omega) | (simp; done))))
  go_upto_region 1 with (fail)
  try rw [hG]
  generalize hw0 : ((w.alloc (.cells #[.int .i64 cap, .int .i64 len, .slice a N c] 24)).alloc (.cells #[.int .i64 lo, .int .i64 hi] 26)) = w0 at Kb Kp B ⊢
  clear hw0 hG
  obtain ⟨bbc0, bbc1, bbc2⟩ := three Kb.out
  obtain ⟨bpc0, bpc1⟩ := twob Kp.out
  go_wp2_with fail
  refine (SN.out _).mono ?_
  rintro e w1 ⟨rfl, hb⟩
  replace Kb := Lib.hid (Kb.out.below hb Kb.out.lt)
  replace Kp := Lib.hid (Kp.out.below hb Kp.out.lt)
  replace B := Lib.hid (B.out.trans (hb.mono B.out.size))
  clear bbc0 bbc1 bbc2 bpc0 bpc1
  clear hb
  obtain ⟨bbc0, bbc1, bbc2⟩ := three Kb.out
  obtain ⟨bpc0, bpc1⟩ := twob Kp.out
  go_wp2
  go_ret
  exact ⟨rfl, B.out⟩
set_option maxRecDepth 100000 in
set_option maxHeartbeats 2000000 in
theorem law3_many (cap len : Int) (a : Option Addr) (c : Nat) (l : List Rw) (wi ga n : Int) (lo hi : Int) (w : World) (hp : RwA w a l) (h : 10001 < l.length) : Calls Try.prog 3 #[.agg #[.int .i64 cap, .int .i64 len, .slice a l.length c], .int .i64 wi, .int .i64 ga, .int .i64 n, per lo hi] w fun e w' => e = .returned (.bool true) ∧ Below w.heap.size w w' := by
  have HP := Lib.hid hp
  have SN := Lib.hid (fun X : World => sanity_any X)
  obtain ⟨N, hN⟩ : ∃ N, l.length = N := ⟨_, rfl⟩
  rw [hN] at h ⊢
  have t1 : decide ((40 : Int) < (N : Int)) = true := decide_eq_true (by omega)
  have t2 : decide ((N : Int) < (10000 : Int)) = false := decide_eq_false (by omega)
  have t3 : decide ((10001 : Int) < (N : Int)) = true := decide_eq_true (by omega)
  clear hp hN h
  go_enter Try.func3, Try.ntmps3
  obtain ⟨G, hG⟩ : ∃ G, w.heap.size = G := ⟨_, rfl⟩
  have HG := Lib.hid hG
  have Kb := Lib.hid (show Blk ((w.alloc (.cells #[.int .i64 cap, .int .i64 len, .slice a N c] 24)).alloc (.cells #[.int .i64 lo, .int .i64 hi] 26)) (G) 24 #[.int .i64 cap, .int .i64 len, .slice a N c] from (Blk.new' _ _ _ _ hG rfl).alloc _)
  have Kp := Lib.hid (show Blk ((w.alloc (.cells #[.int .i64 cap, .int .i64 len, .slice a N c] 24)).alloc (.cells #[.int .i64 lo, .int .i64 hi] 26)) (G + 1) 26 #[.int .i64 lo, .int .i64 hi] from Blk.new' _ _ _ _ (by rw [World.size_alloc, hG]) rfl)
  have B := Lib.hid (show Below w.heap.size w ((w.alloc (.cells #[.int .i64 cap, .int .i64 len, .slice a N c] 24)).alloc (.cells #[.int .i64 lo, .int .i64 hi] 26)) by (repeat' (first | (with_reducible exact Below.refl _ _) | (with_reducible assumption) | (with_reducible refine Below.alloc ?_ ?_ _) | (with_reducible refine Below.drew ?_) | (with_reducible refine below_dn ?_) | (with_reducible refine Below.setCell ?_ ?_ _) | (with_reducible exact Nat.le_refl _) | omega | (simp only [World.size_alloc, World.size_setCell, World.size_drew]; omega) | (simp; omega) | (simp; done))))
  go_upto_region 1 with (fail)
  try rw [hG]
  generalize hw0 : ((w.alloc (.cells #[.int .i64 cap, .int .i64 len, .slice a N c] 24)).alloc (.cells #[.int .i64 lo, .int .i64 hi] 26)) = w0 at Kb Kp B ⊢
  clear hw0 hG
  obtain ⟨bbc0, bbc1, bbc2⟩ := three Kb.out
  obtain ⟨bpc0, bpc1⟩ := twob Kp.out
  go_wp2_with fail
  refine (SN.out _).mono ?_
  rintro e w1 ⟨rfl, hb⟩
  replace Kb := Lib.hid (Kb.out.below hb Kb.out.lt)
  replace Kp := Lib.hid (Kp.out.below hb Kp.out.lt)
  replace B := Lib.hid (B.out.trans (hb.mono B.out.size))
  clear bbc0 bbc1 bbc2 bpc0 bpc1
  clear hb
  obtain ⟨bbc0, bbc1, bbc2⟩ := three Kb.out
  obtain ⟨bpc0, bpc1⟩ := twob Kp.out
  go_wp2
  go_ret
  exact ⟨rfl, B.out⟩
set_option maxRecDepth 100000 in
set_option maxHeartbeats 8000000 in
theorem law3_few (cap len : Int) (a : Option Addr) (c : Nat) (l : List Rw) (wi ga n : Int) (lo hi : Int) (w : World) (hp : RwA w a l) (hl : l.length ≤ 10001) (h : ¬ 40 < l.length) : Calls Try.prog 3 #[.agg #[.int .i64 cap, .int .i64 len, .slice a l.length c], .int .i64 wi, .int .i64 ga, .int .i64 n, per lo hi] w fun e w' => e = .returned (.bool true) ∧ Below w.heap.size w w' := by
  have HP := Lib.hid hp
  have SN := Lib.hid (fun X : World => sanity_any X)
  obtain ⟨N, hN⟩ : ∃ N, l.length = N := ⟨_, rfl⟩
  rw [hN] at h
  obtain ⟨cm, lm, Lm, em, hLm, Pm, Qm⟩ := new_both cap len a c l
  have Pm := Lib.hid Pm
  have Qm := Lib.hid Qm
  have Sm := Lib.hid (fun (a b : Option Addr) (c c2 : Nat) (X : World) (q : RwA X a Lm) (q2 : RwA X b Lm) => same_bank cm lm a b c c2 Lm X q q2 hLm)
  obtain ⟨cd, ld, Ld, ed, hLd, Pd, Qd⟩ := deal_both cap len wi ga n a c l (by omega)
  have Pd := Lib.hid Pd
  have Qd := Lib.hid Qd
  have Sd := Lib.hid (fun (a b : Option Addr) (c c2 : Nat) (X : World) (q : RwA X a Ld) (q2 : RwA X b Ld) => same_bank cd ld a b c c2 Ld X q q2 hLd)
  obtain ⟨cr, lr, Lr, er, hLr, Pr, Qr⟩ := ret_both cap len wi ga n a c l (by omega)
  have Pr := Lib.hid Pr
  have Qr := Lib.hid Qr
  have Sr := Lib.hid (fun (a b : Option Addr) (c c2 : Nat) (X : World) (q : RwA X a Lr) (q2 : RwA X b Lr) => same_bank cr lr a b c c2 Lr X q q2 hLr)
  obtain ⟨cf, lf, Lf, ef, hLf, Pf, Qf⟩ := forget_both cap len lo hi a c l (by omega)
  have Pf := Lib.hid Pf
  have Qf := Lib.hid Qf
  have Sf := Lib.hid (fun (a b : Option Addr) (c c2 : Nat) (X : World) (q : RwA X a Lf) (q2 : RwA X b Lf) => same_bank cf lf a b c c2 Lf X q q2 hLf)
  obtain ⟨vV, PV, QV⟩ := valid_both cap len a c l (by omega)
  have PV := Lib.hid PV
  have QV := Lib.hid QV
  obtain ⟨vDT, PDT, QDT⟩ := dealt_both cap len wi ga a c l (by omega)
  have PDT := Lib.hid PDT
  have QDT := Lib.hid QDT
  obtain ⟨vOT, POT, QOT⟩ := out_both cap len wi a c l (by omega)
  have POT := Lib.hid POT
  have QOT := Lib.hid QOT
  simp only [hN] at Pd Qd Pr Qr Pf Qf PV QV PDT QDT POT QOT
  rw [hN]
  have t1 : decide ((40 : Int) < (N : Int)) = false := decide_eq_false (by omega)
  have t3 : decide ((10001 : Int) < (N : Int)) = false := decide_eq_false (by omega)
  clear hp hN hl hLm hLd hLr hLf h
  obtain ⟨Mm, hMm⟩ : ∃ M, Lm.length = M := ⟨_, rfl⟩
  simp only [hMm] at Pm Qm Sm
  clear hMm
  obtain ⟨Md, hMd⟩ : ∃ M, Ld.length = M := ⟨_, rfl⟩
  simp only [hMd] at Pd Qd Sd
  clear hMd
  obtain ⟨Mr, hMr⟩ : ∃ M, Lr.length = M := ⟨_, rfl⟩
  simp only [hMr] at Pr Qr Sr
  clear hMr
  obtain ⟨Mf, hMf⟩ : ∃ M, Lf.length = M := ⟨_, rfl⟩
  simp only [hMf] at Pf Qf Sf
  clear hMf
  go_enter Try.func3, Try.ntmps3
  obtain ⟨G, hG⟩ : ∃ G, w.heap.size = G := ⟨_, rfl⟩
  have HG := Lib.hid hG
  have Kb := Lib.hid (show Blk ((w.alloc (.cells #[.int .i64 cap, .int .i64 len, .slice a N c] 24)).alloc (.cells #[.int .i64 lo, .int .i64 hi] 26)) (G) 24 #[.int .i64 cap, .int .i64 len, .slice a N c] from (Blk.new' _ _ _ _ hG rfl).alloc _)
  have Kp := Lib.hid (show Blk ((w.alloc (.cells #[.int .i64 cap, .int .i64 len, .slice a N c] 24)).alloc (.cells #[.int .i64 lo, .int .i64 hi] 26)) (G + 1) 26 #[.int .i64 lo, .int .i64 hi] from Blk.new' _ _ _ _ (by rw [World.size_alloc, hG]) rfl)
  have B := Lib.hid (show Below w.heap.size w ((w.alloc (.cells #[.int .i64 cap, .int .i64 len, .slice a N c] 24)).alloc (.cells #[.int .i64 lo, .int .i64 hi] 26)) by (repeat' (first | (with_reducible exact Below.refl _ _) | (with_reducible assumption) | (with_reducible refine Below.alloc ?_ ?_ _) | (with_reducible refine Below.drew ?_) | (with_reducible refine below_dn ?_) | (with_reducible refine Below.setCell ?_ ?_ _) | (with_reducible exact Nat.le_refl _) | omega | (simp only [World.size_alloc, World.size_setCell, World.size_drew]; omega) | (simp; omega) | (simp; done))))
  go_upto_region 1 with (fail)
  try rw [hG]
  generalize hw0 : ((w.alloc (.cells #[.int .i64 cap, .int .i64 len, .slice a N c] 24)).alloc (.cells #[.int .i64 lo, .int .i64 hi] 26)) = w0 at Kb Kp B ⊢
  clear hw0 hG
  obtain ⟨bbc0, bbc1, bbc2⟩ := three Kb.out
  obtain ⟨bpc0, bpc1⟩ := twob Kp.out
  go_wp2_with fail
  refine (Pm.out _ (HP.out.mono B.out)).mono ?_
  rintro e w1 ⟨⟨am, km, rfl, hr⟩, hb⟩
  have Rm := Lib.hid hr
  replace Kb := Lib.hid (Kb.out.below hb Kb.out.lt)
  replace Kp := Lib.hid (Kp.out.below hb Kp.out.lt)
  replace B := Lib.hid (B.out.trans (hb.mono B.out.size))
  clear bbc0 bbc1 bbc2 bpc0 bpc1
  clear hb hr
  obtain ⟨bbc0, bbc1, bbc2⟩ := three Kb.out
  obtain ⟨bpc0, bpc1⟩ := twob Kp.out
  obtain ⟨gxm, hgxm⟩ : ∃ G, w1.heap.size = G := ⟨_, rfl⟩
  have Kxm := Lib.hid (show Blk (w1.alloc (.cells #[.int .i64 cm, .int .i64 lm, .slice am Mm km] 24)) gxm 24 #[.int .i64 cm, .int .i64 lm, .slice am Mm km] from Blk.new' w1 _ _ _ hgxm rfl)
  have Nbxm := Lib.hid (show G < gxm from by rw [← hgxm]; exact Kb.out.lt)
  replace Kb := Lib.hid (Kb.out.alloc (.cells #[.int .i64 cm, .int .i64 lm, .slice am Mm km] 24))
  have Npxm := Lib.hid (show G + 1 < gxm from by rw [← hgxm]; exact Kp.out.lt)
  replace Kp := Lib.hid (Kp.out.alloc (.cells #[.int .i64 cm, .int .i64 lm, .slice am Mm km] 24))
  replace Rm := Lib.hid (Rm.out.mono ((Below.refl _ w1).alloc (Nat.le_refl _) (.cells #[.int .i64 cm, .int .i64 lm, .slice am Mm km] 24)))
  have Lxm := Lib.hid (show w.heap.size ≤ gxm from by rw [← hgxm]; exact B.out.size)
  replace B := Lib.hid (B.out.alloc B.out.size (.cells #[.int .i64 cm, .int .i64 lm, .slice am Mm km] 24))
  go_upto_region 4 with (fail)
  try rw [hgxm]
  generalize hw : w1.alloc (.cells #[.int .i64 cm, .int .i64 lm, .slice am Mm km] 24) = w2 at Kb Kp Kxm Rm B ⊢
  clear bbc0 bbc1 bbc2 bpc0 bpc1
  clear hw hgxm
  obtain ⟨bbc0, bbc1, bbc2⟩ := three Kb.out
  obtain ⟨bpc0, bpc1⟩ := twob Kp.out
  obtain ⟨bxmc0, bxmc1, bxmc2⟩ := three Kxm.out
  go_wp2_with fail
  refine (Pd.out _ (HP.out.mono B.out)).mono ?_
  rintro e w3 ⟨⟨ad, kd, rfl, hr⟩, hb⟩
  have Rd := Lib.hid hr
  replace Kb := Lib.hid (Kb.out.below hb Kb.out.lt)
  replace Kp := Lib.hid (Kp.out.below hb Kp.out.lt)
  replace Kxm := Lib.hid (Kxm.out.below hb Kxm.out.lt)
  replace Rm := Lib.hid (Rm.out.mono hb)
  replace B := Lib.hid (B.out.trans (hb.mono B.out.size))
  clear bbc0 bbc1 bbc2 bpc0 bpc1 bxmc0 bxmc1 bxmc2
  clear hb hr
  obtain ⟨bbc0, bbc1, bbc2⟩ := three Kb.out
  obtain ⟨bpc0, bpc1⟩ := twob Kp.out
  obtain ⟨bxmc0, bxmc1, bxmc2⟩ := three Kxm.out
  obtain ⟨gxd, hgxd⟩ : ∃ G, w3.heap.size = G := ⟨_, rfl⟩
  have Kxd := Lib.hid (show Blk (w3.alloc (.cells #[.int .i64 cd, .int .i64 ld, .slice ad Md kd] 24)) gxd 24 #[.int .i64 cd, .int .i64 ld, .slice ad Md kd] from Blk.new' w3 _ _ _ hgxd rfl)
  have Nbxd := Lib.hid (show G < gxd from by rw [← hgxd]; exact Kb.out.lt)
  replace Kb := Lib.hid (Kb.out.alloc (.cells #[.int .i64 cd, .int .i64 ld, .slice ad Md kd] 24))
  have Npxd := Lib.hid (show G + 1 < gxd from by rw [← hgxd]; exact Kp.out.lt)
  replace Kp := Lib.hid (Kp.out.alloc (.cells #[.int .i64 cd, .int .i64 ld, .slice ad Md kd] 24))
  have Nxmxd := Lib.hid (show gxm < gxd from by rw [← hgxd]; exact Kxm.out.lt)
  replace Kxm := Lib.hid (Kxm.out.alloc (.cells #[.int .i64 cd, .int .i64 ld, .slice ad Md kd] 24))
  replace Rm := Lib.hid (Rm.out.mono ((Below.refl _ w3).alloc (Nat.le_refl _) (.cells #[.int .i64 cd, .int .i64 ld, .slice ad Md kd] 24)))
  replace Rd := Lib.hid (Rd.out.mono ((Below.refl _ w3).alloc (Nat.le_refl _) (.cells #[.int .i64 cd, .int .i64 ld, .slice ad Md kd] 24)))
  have Lxd := Lib.hid (show w.heap.size ≤ gxd from by rw [← hgxd]; exact B.out.size)
  replace B := Lib.hid (B.out.alloc B.out.size (.cells #[.int .i64 cd, .int .i64 ld, .slice ad Md kd] 24))
  go_upto_region 5 with (fail)
  try rw [hgxd]
  generalize hw : w3.alloc (.cells #[.int .i64 cd, .int .i64 ld, .slice ad Md kd] 24) = w4 at Kb Kp Kxm Kxd Rm Rd B ⊢
  clear bbc0 bbc1 bbc2 bpc0 bpc1 bxmc0 bxmc1 bxmc2
  clear hw hgxd
  obtain ⟨bbc0, bbc1, bbc2⟩ := three Kb.out
  obtain ⟨bpc0, bpc1⟩ := twob Kp.out
  obtain ⟨bxmc0, bxmc1, bxmc2⟩ := three Kxm.out
  obtain ⟨bxdc0, bxdc1, bxdc2⟩ := three Kxd.out
  go_wp2_with fail
  refine (Pr.out _ (HP.out.mono B.out)).mono ?_
  rintro e w5 ⟨⟨ar, kr, rfl, hr⟩, hb⟩
  have Rr := Lib.hid hr
  replace Kb := Lib.hid (Kb.out.below hb Kb.out.lt)
  replace Kp := Lib.hid (Kp.out.below hb Kp.out.lt)
  replace Kxm := Lib.hid (Kxm.out.below hb Kxm.out.lt)
  replace Kxd := Lib.hid (Kxd.out.below hb Kxd.out.lt)
  replace Rm := Lib.hid (Rm.out.mono hb)
  replace Rd := Lib.hid (Rd.out.mono hb)
  replace B := Lib.hid (B.out.trans (hb.mono B.out.size))
  clear bbc0 bbc1 bbc2 bpc0 bpc1 bxmc0 bxmc1 bxmc2 bxdc0 bxdc1 bxdc2
  clear hb hr
  obtain ⟨bbc0, bbc1, bbc2⟩ := three Kb.out
  obtain ⟨bpc0, bpc1⟩ := twob Kp.out
  obtain ⟨bxmc0, bxmc1, bxmc2⟩ := three Kxm.out
  obtain ⟨bxdc0, bxdc1, bxdc2⟩ := three Kxd.out
  obtain ⟨gxr, hgxr⟩ : ∃ G, w5.heap.size = G := ⟨_, rfl⟩
  have Kxr := Lib.hid (show Blk (w5.alloc (.cells #[.int .i64 cr, .int .i64 lr, .slice ar Mr kr] 24)) gxr 24 #[.int .i64 cr, .int .i64 lr, .slice ar Mr kr] from Blk.new' w5 _ _ _ hgxr rfl)
  have Nbxr := Lib.hid (show G < gxr from by rw [← hgxr]; exact Kb.out.lt)
  replace Kb := Lib.hid (Kb.out.alloc (.cells #[.int .i64 cr, .int .i64 lr, .slice ar Mr kr] 24))
  have Npxr := Lib.hid (show G + 1 < gxr from by rw [← hgxr]; exact Kp.out.lt)
  replace Kp := Lib.hid (Kp.out.alloc (.cells #[.int .i64 cr, .int .i64 lr, .slice ar Mr kr] 24))
  have Nxmxr := Lib.hid (show gxm < gxr from by rw [← hgxr]; exact Kxm.out.lt)
  replace Kxm := Lib.hid (Kxm.out.alloc (.cells #[.int .i64 cr, .int .i64 lr, .slice ar Mr kr] 24))
  have Nxdxr := Lib.hid (show gxd < gxr from by rw [← hgxr]; exact Kxd.out.lt)
  replace Kxd := Lib.hid (Kxd.out.alloc (.cells #[.int .i64 cr, .int .i64 lr, .slice ar Mr kr] 24))
  replace Rm := Lib.hid (Rm.out.mono ((Below.refl _ w5).alloc (Nat.le_refl _) (.cells #[.int .i64 cr, .int .i64 lr, .slice ar Mr kr] 24)))
  replace Rd := Lib.hid (Rd.out.mono ((Below.refl _ w5).alloc (Nat.le_refl _) (.cells #[.int .i64 cr, .int .i64 lr, .slice ar Mr kr] 24)))
  replace Rr := Lib.hid (Rr.out.mono ((Below.refl _ w5).alloc (Nat.le_refl _) (.cells #[.int .i64 cr, .int .i64 lr, .slice ar Mr kr] 24)))
  have Lxr := Lib.hid (show w.heap.size ≤ gxr from by rw [← hgxr]; exact B.out.size)
  replace B := Lib.hid (B.out.alloc B.out.size (.cells #[.int .i64 cr, .int .i64 lr, .slice ar Mr kr] 24))
  go_upto_region 6 with (fail)
  try rw [hgxr]
  generalize hw : w5.alloc (.cells #[.int .i64 cr, .int .i64 lr, .slice ar Mr kr] 24) = w6 at Kb Kp Kxm Kxd Kxr Rm Rd Rr B ⊢
  clear bbc0 bbc1 bbc2 bpc0 bpc1 bxmc0 bxmc1 bxmc2 bxdc0 bxdc1 bxdc2
  clear hw hgxr
  obtain ⟨bbc0, bbc1, bbc2⟩ := three Kb.out
  obtain ⟨bpc0, bpc1⟩ := twob Kp.out
  obtain ⟨bxmc0, bxmc1, bxmc2⟩ := three Kxm.out
  obtain ⟨bxdc0, bxdc1, bxdc2⟩ := three Kxd.out
  obtain ⟨bxrc0, bxrc1, bxrc2⟩ := three Kxr.out
  go_wp2_with fail
  refine (Pf.out _ (HP.out.mono B.out)).mono ?_
  rintro e w7 ⟨⟨af, kf, rfl, hr⟩, hb⟩
  have Rf := Lib.hid hr
  replace Kb := Lib.hid (Kb.out.below hb Kb.out.lt)
  replace Kp := Lib.hid (Kp.out.below hb Kp.out.lt)
  replace Kxm := Lib.hid (Kxm.out.below hb Kxm.out.lt)
  replace Kxd := Lib.hid (Kxd.out.below hb Kxd.out.lt)
  replace Kxr := Lib.hid (Kxr.out.below hb Kxr.out.lt)
  replace Rm := Lib.hid (Rm.out.mono hb)
  replace Rd := Lib.hid (Rd.out.mono hb)
  replace Rr := Lib.hid (Rr.out.mono hb)
  replace B := Lib.hid (B.out.trans (hb.mono B.out.size))
  clear bbc0 bbc1 bbc2 bpc0 bpc1 bxmc0 bxmc1 bxmc2 bxdc0 bxdc1 bxdc2 bxrc0 bxrc1 bxrc2
  clear hb hr
  obtain ⟨bbc0, bbc1, bbc2⟩ := three Kb.out
  obtain ⟨bpc0, bpc1⟩ := twob Kp.out
  obtain ⟨bxmc0, bxmc1, bxmc2⟩ := three Kxm.out
  obtain ⟨bxdc0, bxdc1, bxdc2⟩ := three Kxd.out
  obtain ⟨bxrc0, bxrc1, bxrc2⟩ := three Kxr.out
  obtain ⟨gxf, hgxf⟩ : ∃ G, w7.heap.size = G := ⟨_, rfl⟩
  have Kxf := Lib.hid (show Blk (w7.alloc (.cells #[.int .i64 cf, .int .i64 lf, .slice af Mf kf] 24)) gxf 24 #[.int .i64 cf, .int .i64 lf, .slice af Mf kf] from Blk.new' w7 _ _ _ hgxf rfl)
  have Nbxf := Lib.hid (show G < gxf from by rw [← hgxf]; exact Kb.out.lt)
  replace Kb := Lib.hid (Kb.out.alloc (.cells #[.int .i64 cf, .int .i64 lf, .slice af Mf kf] 24))
  have Npxf := Lib.hid (show G + 1 < gxf from by rw [← hgxf]; exact Kp.out.lt)
  replace Kp := Lib.hid (Kp.out.alloc (.cells #[.int .i64 cf, .int .i64 lf, .slice af Mf kf] 24))
  have Nxmxf := Lib.hid (show gxm < gxf from by rw [← hgxf]; exact Kxm.out.lt)
  replace Kxm := Lib.hid (Kxm.out.alloc (.cells #[.int .i64 cf, .int .i64 lf, .slice af Mf kf] 24))
  have Nxdxf := Lib.hid (show gxd < gxf from by rw [← hgxf]; exact Kxd.out.lt)
  replace Kxd := Lib.hid (Kxd.out.alloc (.cells #[.int .i64 cf, .int .i64 lf, .slice af Mf kf] 24))
  have Nxrxf := Lib.hid (show gxr < gxf from by rw [← hgxf]; exact Kxr.out.lt)
  replace Kxr := Lib.hid (Kxr.out.alloc (.cells #[.int .i64 cf, .int .i64 lf, .slice af Mf kf] 24))
  replace Rm := Lib.hid (Rm.out.mono ((Below.refl _ w7).alloc (Nat.le_refl _) (.cells #[.int .i64 cf, .int .i64 lf, .slice af Mf kf] 24)))
  replace Rd := Lib.hid (Rd.out.mono ((Below.refl _ w7).alloc (Nat.le_refl _) (.cells #[.int .i64 cf, .int .i64 lf, .slice af Mf kf] 24)))
  replace Rr := Lib.hid (Rr.out.mono ((Below.refl _ w7).alloc (Nat.le_refl _) (.cells #[.int .i64 cf, .int .i64 lf, .slice af Mf kf] 24)))
  replace Rf := Lib.hid (Rf.out.mono ((Below.refl _ w7).alloc (Nat.le_refl _) (.cells #[.int .i64 cf, .int .i64 lf, .slice af Mf kf] 24)))
  have Lxf := Lib.hid (show w.heap.size ≤ gxf from by rw [← hgxf]; exact B.out.size)
  replace B := Lib.hid (B.out.alloc B.out.size (.cells #[.int .i64 cf, .int .i64 lf, .slice af Mf kf] 24))
  go_upto_region 7 with (fail)
  try rw [hgxf]
  generalize hw : w7.alloc (.cells #[.int .i64 cf, .int .i64 lf, .slice af Mf kf] 24) = w8 at Kb Kp Kxm Kxd Kxr Kxf Rm Rd Rr Rf B ⊢
  clear bbc0 bbc1 bbc2 bpc0 bpc1 bxmc0 bxmc1 bxmc2 bxdc0 bxdc1 bxdc2 bxrc0 bxrc1 bxrc2
  clear hw hgxf
  obtain ⟨bbc0, bbc1, bbc2⟩ := three Kb.out
  obtain ⟨bpc0, bpc1⟩ := twob Kp.out
  obtain ⟨bxmc0, bxmc1, bxmc2⟩ := three Kxm.out
  obtain ⟨bxdc0, bxdc1, bxdc2⟩ := three Kxd.out
  obtain ⟨bxrc0, bxrc1, bxrc2⟩ := three Kxr.out
  obtain ⟨bxfc0, bxfc1, bxfc2⟩ := three Kxf.out
  go_wp2_with fail
  refine (Qm.out _ (HP.out.mono B.out)).mono ?_
  rintro e w9 ⟨⟨bm, jm, rfl, hr⟩, hb⟩
  have Rmq := Lib.hid hr
  replace Kb := Lib.hid (Kb.out.below hb Kb.out.lt)
  replace Kp := Lib.hid (Kp.out.below hb Kp.out.lt)
  replace Kxm := Lib.hid (Kxm.out.below hb Kxm.out.lt)
  replace Kxd := Lib.hid (Kxd.out.below hb Kxd.out.lt)
  replace Kxr := Lib.hid (Kxr.out.below hb Kxr.out.lt)
  replace Kxf := Lib.hid (Kxf.out.below hb Kxf.out.lt)
  replace Rm := Lib.hid (Rm.out.mono hb)
  replace Rd := Lib.hid (Rd.out.mono hb)
  replace Rr := Lib.hid (Rr.out.mono hb)
  replace Rf := Lib.hid (Rf.out.mono hb)
  replace B := Lib.hid (B.out.trans (hb.mono B.out.size))
  clear bbc0 bbc1 bbc2 bpc0 bpc1 bxmc0 bxmc1 bxmc2 bxdc0 bxdc1 bxdc2 bxrc0 bxrc1 bxrc2 bxfc0 bxfc1 bxfc2
  clear hb hr
  obtain ⟨bbc0, bbc1, bbc2⟩ := three Kb.out
  obtain ⟨bpc0, bpc1⟩ := twob Kp.out
  obtain ⟨bxmc0, bxmc1, bxmc2⟩ := three Kxm.out
  obtain ⟨bxdc0, bxdc1, bxdc2⟩ := three Kxd.out
  obtain ⟨bxrc0, bxrc1, bxrc2⟩ := three Kxr.out
  obtain ⟨bxfc0, bxfc1, bxfc2⟩ := three Kxf.out
  obtain ⟨gym, hgym⟩ : ∃ G, w9.heap.size = G := ⟨_, rfl⟩
  have Kym := Lib.hid (show Blk (w9.alloc (.cells #[.int .i64 cm, .int .i64 lm, .slice bm Mm jm, .int .i64 em] 34)) gym 34 #[.int .i64 cm, .int .i64 lm, .slice bm Mm jm, .int .i64 em] from Blk.new' w9 _ _ _ hgym rfl)
  have Nbym := Lib.hid (show G < gym from by rw [← hgym]; exact Kb.out.lt)
  replace Kb := Lib.hid (Kb.out.alloc (.cells #[.int .i64 cm, .int .i64 lm, .slice bm Mm jm, .int .i64 em] 34))
  have Npym := Lib.hid (show G + 1 < gym from by rw [← hgym]; exact Kp.out.lt)
  replace Kp := Lib.hid (Kp.out.alloc (.cells #[.int .i64 cm, .int .i64 lm, .slice bm Mm jm, .int .i64 em] 34))
  have Nxmym := Lib.hid (show gxm < gym from by rw [← hgym]; exact Kxm.out.lt)
  replace Kxm := Lib.hid (Kxm.out.alloc (.cells #[.int .i64 cm, .int .i64 lm, .slice bm Mm jm, .int .i64 em] 34))
  have Nxdym := Lib.hid (show gxd < gym from by rw [← hgym]; exact Kxd.out.lt)
  replace Kxd := Lib.hid (Kxd.out.alloc (.cells #[.int .i64 cm, .int .i64 lm, .slice bm Mm jm, .int .i64 em] 34))
  have Nxrym := Lib.hid (show gxr < gym from by rw [← hgym]; exact Kxr.out.lt)
  replace Kxr := Lib.hid (Kxr.out.alloc (.cells #[.int .i64 cm, .int .i64 lm, .slice bm Mm jm, .int .i64 em] 34))
  have Nxfym := Lib.hid (show gxf < gym from by rw [← hgym]; exact Kxf.out.lt)
  replace Kxf := Lib.hid (Kxf.out.alloc (.cells #[.int .i64 cm, .int .i64 lm, .slice bm Mm jm, .int .i64 em] 34))
  replace Rm := Lib.hid (Rm.out.mono ((Below.refl _ w9).alloc (Nat.le_refl _) (.cells #[.int .i64 cm, .int .i64 lm, .slice bm Mm jm, .int .i64 em] 34)))
  replace Rd := Lib.hid (Rd.out.mono ((Below.refl _ w9).alloc (Nat.le_refl _) (.cells #[.int .i64 cm, .int .i64 lm, .slice bm Mm jm, .int .i64 em] 34)))
  replace Rr := Lib.hid (Rr.out.mono ((Below.refl _ w9).alloc (Nat.le_refl _) (.cells #[.int .i64 cm, .int .i64 lm, .slice bm Mm jm, .int .i64 em] 34)))
  replace Rf := Lib.hid (Rf.out.mono ((Below.refl _ w9).alloc (Nat.le_refl _) (.cells #[.int .i64 cm, .int .i64 lm, .slice bm Mm jm, .int .i64 em] 34)))
  replace Rmq := Lib.hid (Rmq.out.mono ((Below.refl _ w9).alloc (Nat.le_refl _) (.cells #[.int .i64 cm, .int .i64 lm, .slice bm Mm jm, .int .i64 em] 34)))
  have Lym := Lib.hid (show w.heap.size ≤ gym from by rw [← hgym]; exact B.out.size)
  replace B := Lib.hid (B.out.alloc B.out.size (.cells #[.int .i64 cm, .int .i64 lm, .slice bm Mm jm, .int .i64 em] 34))
  go_upto_region 8 with (fail)
  try rw [hgym]
  generalize hw : w9.alloc (.cells #[.int .i64 cm, .int .i64 lm, .slice bm Mm jm, .int .i64 em] 34) = w10 at Kb Kp Kxm Kxd Kxr Kxf Kym Rm Rd Rr Rf Rmq B ⊢
  clear bbc0 bbc1 bbc2 bpc0 bpc1 bxmc0 bxmc1 bxmc2 bxdc0 bxdc1 bxdc2 bxrc0 bxrc1 bxrc2 bxfc0 bxfc1 bxfc2
  clear hw hgym
  obtain ⟨bbc0, bbc1, bbc2⟩ := three Kb.out
  obtain ⟨bpc0, bpc1⟩ := twob Kp.out
  obtain ⟨bxmc0, bxmc1, bxmc2⟩ := three Kxm.out
  obtain ⟨bxdc0, bxdc1, bxdc2⟩ := three Kxd.out
  obtain ⟨bxrc0, bxrc1, bxrc2⟩ := three Kxr.out
  obtain ⟨bxfc0, bxfc1, bxfc2⟩ := three Kxf.out
  obtain ⟨bymc0, bymc1, bymc2, bymc3⟩ := four Kym.out
  go_wp2_with fail
  refine (Qd.out _ (HP.out.mono B.out)).mono ?_
  rintro e w11 ⟨⟨bd, jd, rfl, hr⟩, hb⟩
  have Rdq := Lib.hid hr
  replace Kb := Lib.hid (Kb.out.below hb Kb.out.lt)
  replace Kp := Lib.hid (Kp.out.below hb Kp.out.lt)
  replace Kxm := Lib.hid (Kxm.out.below hb Kxm.out.lt)
  replace Kxd := Lib.hid (Kxd.out.below hb Kxd.out.lt)
  replace Kxr := Lib.hid (Kxr.out.below hb Kxr.out.lt)
  replace Kxf := Lib.hid (Kxf.out.below hb Kxf.out.lt)
  replace Kym := Lib.hid (Kym.out.below hb Kym.out.lt)
  replace Rm := Lib.hid (Rm.out.mono hb)
  replace Rd := Lib.hid (Rd.out.mono hb)
  replace Rr := Lib.hid (Rr.out.mono hb)
  replace Rf := Lib.hid (Rf.out.mono hb)
  replace Rmq := Lib.hid (Rmq.out.mono hb)
  replace B := Lib.hid (B.out.trans (hb.mono B.out.size))
  clear bbc0 bbc1 bbc2 bpc0 bpc1 bxmc0 bxmc1 bxmc2 bxdc0 bxdc1 bxdc2 bxrc0 bxrc1 bxrc2 bxfc0 bxfc1 bxfc2 bymc0 bymc1 bymc2 bymc3
  clear hb hr
  obtain ⟨bbc0, bbc1, bbc2⟩ := three Kb.out
  obtain ⟨bpc0, bpc1⟩ := twob Kp.out
  obtain ⟨bxmc0, bxmc1, bxmc2⟩ := three Kxm.out
  obtain ⟨bxdc0, bxdc1, bxdc2⟩ := three Kxd.out
  obtain ⟨bxrc0, bxrc1, bxrc2⟩ := three Kxr.out
  obtain ⟨bxfc0, bxfc1, bxfc2⟩ := three Kxf.out
  obtain ⟨bymc0, bymc1, bymc2, bymc3⟩ := four Kym.out
  obtain ⟨gyd, hgyd⟩ : ∃ G, w11.heap.size = G := ⟨_, rfl⟩
  have Kyd := Lib.hid (show Blk (w11.alloc (.cells #[.int .i64 cd, .int .i64 ld, .slice bd Md jd, .int .i64 ed] 34)) gyd 34 #[.int .i64 cd, .int .i64 ld, .slice bd Md jd, .int .i64 ed] from Blk.new' w11 _ _ _ hgyd rfl)
  have Nbyd := Lib.hid (show G < gyd from by rw [← hgyd]; exact Kb.out.lt)
  replace Kb := Lib.hid (Kb.out.alloc (.cells #[.int .i64 cd, .int .i64 ld, .slice bd Md jd, .int .i64 ed] 34))
  have Npyd := Lib.hid (show G + 1 < gyd from by rw [← hgyd]; exact Kp.out.lt)
  replace Kp := Lib.hid (Kp.out.alloc (.cells #[.int .i64 cd, .int .i64 ld, .slice bd Md jd, .int .i64 ed] 34))
  have Nxmyd := Lib.hid (show gxm < gyd from by rw [← hgyd]; exact Kxm.out.lt)
  replace Kxm := Lib.hid (Kxm.out.alloc (.cells #[.int .i64 cd, .int .i64 ld, .slice bd Md jd, .int .i64 ed] 34))
  have Nxdyd := Lib.hid (show gxd < gyd from by rw [← hgyd]; exact Kxd.out.lt)
  replace Kxd := Lib.hid (Kxd.out.alloc (.cells #[.int .i64 cd, .int .i64 ld, .slice bd Md jd, .int .i64 ed] 34))
  have Nxryd := Lib.hid (show gxr < gyd from by rw [← hgyd]; exact Kxr.out.lt)
  replace Kxr := Lib.hid (Kxr.out.alloc (.cells #[.int .i64 cd, .int .i64 ld, .slice bd Md jd, .int .i64 ed] 34))
  have Nxfyd := Lib.hid (show gxf < gyd from by rw [← hgyd]; exact Kxf.out.lt)
  replace Kxf := Lib.hid (Kxf.out.alloc (.cells #[.int .i64 cd, .int .i64 ld, .slice bd Md jd, .int .i64 ed] 34))
  have Nymyd := Lib.hid (show gym < gyd from by rw [← hgyd]; exact Kym.out.lt)
  replace Kym := Lib.hid (Kym.out.alloc (.cells #[.int .i64 cd, .int .i64 ld, .slice bd Md jd, .int .i64 ed] 34))
  replace Rm := Lib.hid (Rm.out.mono ((Below.refl _ w11).alloc (Nat.le_refl _) (.cells #[.int .i64 cd, .int .i64 ld, .slice bd Md jd, .int .i64 ed] 34)))
  replace Rd := Lib.hid (Rd.out.mono ((Below.refl _ w11).alloc (Nat.le_refl _) (.cells #[.int .i64 cd, .int .i64 ld, .slice bd Md jd, .int .i64 ed] 34)))
  replace Rr := Lib.hid (Rr.out.mono ((Below.refl _ w11).alloc (Nat.le_refl _) (.cells #[.int .i64 cd, .int .i64 ld, .slice bd Md jd, .int .i64 ed] 34)))
  replace Rf := Lib.hid (Rf.out.mono ((Below.refl _ w11).alloc (Nat.le_refl _) (.cells #[.int .i64 cd, .int .i64 ld, .slice bd Md jd, .int .i64 ed] 34)))
  replace Rmq := Lib.hid (Rmq.out.mono ((Below.refl _ w11).alloc (Nat.le_refl _) (.cells #[.int .i64 cd, .int .i64 ld, .slice bd Md jd, .int .i64 ed] 34)))
  replace Rdq := Lib.hid (Rdq.out.mono ((Below.refl _ w11).alloc (Nat.le_refl _) (.cells #[.int .i64 cd, .int .i64 ld, .slice bd Md jd, .int .i64 ed] 34)))
  have Lyd := Lib.hid (show w.heap.size ≤ gyd from by rw [← hgyd]; exact B.out.size)
  replace B := Lib.hid (B.out.alloc B.out.size (.cells #[.int .i64 cd, .int .i64 ld, .slice bd Md jd, .int .i64 ed] 34))
  go_upto_region 9 with (fail)
  try rw [hgyd]
  generalize hw : w11.alloc (.cells #[.int .i64 cd, .int .i64 ld, .slice bd Md jd, .int .i64 ed] 34) = w12 at Kb Kp Kxm Kxd Kxr Kxf Kym Kyd Rm Rd Rr Rf Rmq Rdq B ⊢
  clear bbc0 bbc1 bbc2 bpc0 bpc1 bxmc0 bxmc1 bxmc2 bxdc0 bxdc1 bxdc2 bxrc0 bxrc1 bxrc2 bxfc0 bxfc1 bxfc2 bymc0 bymc1 bymc2 bymc3
  clear hw hgyd
  obtain ⟨bbc0, bbc1, bbc2⟩ := three Kb.out
  obtain ⟨bpc0, bpc1⟩ := twob Kp.out
  obtain ⟨bxmc0, bxmc1, bxmc2⟩ := three Kxm.out
  obtain ⟨bxdc0, bxdc1, bxdc2⟩ := three Kxd.out
  obtain ⟨bxrc0, bxrc1, bxrc2⟩ := three Kxr.out
  obtain ⟨bxfc0, bxfc1, bxfc2⟩ := three Kxf.out
  obtain ⟨bymc0, bymc1, bymc2, bymc3⟩ := four Kym.out
  obtain ⟨bydc0, bydc1, bydc2, bydc3⟩ := four Kyd.out
  go_wp2_with fail
  refine (Qr.out _ (HP.out.mono B.out)).mono ?_
  rintro e w13 ⟨⟨br, jr, rfl, hr⟩, hb⟩
  have Rrq := Lib.hid hr
  replace Kb := Lib.hid (Kb.out.below hb Kb.out.lt)
  replace Kp := Lib.hid (Kp.out.below hb Kp.out.lt)
  replace Kxm := Lib.hid (Kxm.out.below hb Kxm.out.lt)
  replace Kxd := Lib.hid (Kxd.out.below hb Kxd.out.lt)
  replace Kxr := Lib.hid (Kxr.out.below hb Kxr.out.lt)
  replace Kxf := Lib.hid (Kxf.out.below hb Kxf.out.lt)
  replace Kym := Lib.hid (Kym.out.below hb Kym.out.lt)
  replace Kyd := Lib.hid (Kyd.out.below hb Kyd.out.lt)
  replace Rm := Lib.hid (Rm.out.mono hb)
  replace Rd := Lib.hid (Rd.out.mono hb)
  replace Rr := Lib.hid (Rr.out.mono hb)
  replace Rf := Lib.hid (Rf.out.mono hb)
  replace Rmq := Lib.hid (Rmq.out.mono hb)
  replace Rdq := Lib.hid (Rdq.out.mono hb)
  replace B := Lib.hid (B.out.trans (hb.mono B.out.size))
  clear bbc0 bbc1 bbc2 bpc0 bpc1 bxmc0 bxmc1 bxmc2 bxdc0 bxdc1 bxdc2 bxrc0 bxrc1 bxrc2 bxfc0 bxfc1 bxfc2 bymc0 bymc1 bymc2 bymc3 bydc0 bydc1 bydc2 bydc3
  clear hb hr
  obtain ⟨bbc0, bbc1, bbc2⟩ := three Kb.out
  obtain ⟨bpc0, bpc1⟩ := twob Kp.out
  obtain ⟨bxmc0, bxmc1, bxmc2⟩ := three Kxm.out
  obtain ⟨bxdc0, bxdc1, bxdc2⟩ := three Kxd.out
  obtain ⟨bxrc0, bxrc1, bxrc2⟩ := three Kxr.out
  obtain ⟨bxfc0, bxfc1, bxfc2⟩ := three Kxf.out
  obtain ⟨bymc0, bymc1, bymc2, bymc3⟩ := four Kym.out
  obtain ⟨bydc0, bydc1, bydc2, bydc3⟩ := four Kyd.out
  obtain ⟨gyr, hgyr⟩ : ∃ G, w13.heap.size = G := ⟨_, rfl⟩
  have Kyr := Lib.hid (show Blk (w13.alloc (.cells #[.int .i64 cr, .int .i64 lr, .slice br Mr jr, .int .i64 er] 34)) gyr 34 #[.int .i64 cr, .int .i64 lr, .slice br Mr jr, .int .i64 er] from Blk.new' w13 _ _ _ hgyr rfl)
  have Nbyr := Lib.hid (show G < gyr from by rw [← hgyr]; exact Kb.out.lt)
  replace Kb := Lib.hid (Kb.out.alloc (.cells #[.int .i64 cr, .int .i64 lr, .slice br Mr jr, .int .i64 er] 34))
  have Npyr := Lib.hid (show G + 1 < gyr from by rw [← hgyr]; exact Kp.out.lt)
  replace Kp := Lib.hid (Kp.out.alloc (.cells #[.int .i64 cr, .int .i64 lr, .slice br Mr jr, .int .i64 er] 34))
  have Nxmyr := Lib.hid (show gxm < gyr from by rw [← hgyr]; exact Kxm.out.lt)
  replace Kxm := Lib.hid (Kxm.out.alloc (.cells #[.int .i64 cr, .int .i64 lr, .slice br Mr jr, .int .i64 er] 34))
  have Nxdyr := Lib.hid (show gxd < gyr from by rw [← hgyr]; exact Kxd.out.lt)
  replace Kxd := Lib.hid (Kxd.out.alloc (.cells #[.int .i64 cr, .int .i64 lr, .slice br Mr jr, .int .i64 er] 34))
  have Nxryr := Lib.hid (show gxr < gyr from by rw [← hgyr]; exact Kxr.out.lt)
  replace Kxr := Lib.hid (Kxr.out.alloc (.cells #[.int .i64 cr, .int .i64 lr, .slice br Mr jr, .int .i64 er] 34))
  have Nxfyr := Lib.hid (show gxf < gyr from by rw [← hgyr]; exact Kxf.out.lt)
  replace Kxf := Lib.hid (Kxf.out.alloc (.cells #[.int .i64 cr, .int .i64 lr, .slice br Mr jr, .int .i64 er] 34))
  have Nymyr := Lib.hid (show gym < gyr from by rw [← hgyr]; exact Kym.out.lt)
  replace Kym := Lib.hid (Kym.out.alloc (.cells #[.int .i64 cr, .int .i64 lr, .slice br Mr jr, .int .i64 er] 34))
  have Nydyr := Lib.hid (show gyd < gyr from by rw [← hgyr]; exact Kyd.out.lt)
  replace Kyd := Lib.hid (Kyd.out.alloc (.cells #[.int .i64 cr, .int .i64 lr, .slice br Mr jr, .int .i64 er] 34))
  replace Rm := Lib.hid (Rm.out.mono ((Below.refl _ w13).alloc (Nat.le_refl _) (.cells #[.int .i64 cr, .int .i64 lr, .slice br Mr jr, .int .i64 er] 34)))
  replace Rd := Lib.hid (Rd.out.mono ((Below.refl _ w13).alloc (Nat.le_refl _) (.cells #[.int .i64 cr, .int .i64 lr, .slice br Mr jr, .int .i64 er] 34)))
  replace Rr := Lib.hid (Rr.out.mono ((Below.refl _ w13).alloc (Nat.le_refl _) (.cells #[.int .i64 cr, .int .i64 lr, .slice br Mr jr, .int .i64 er] 34)))
  replace Rf := Lib.hid (Rf.out.mono ((Below.refl _ w13).alloc (Nat.le_refl _) (.cells #[.int .i64 cr, .int .i64 lr, .slice br Mr jr, .int .i64 er] 34)))
  replace Rmq := Lib.hid (Rmq.out.mono ((Below.refl _ w13).alloc (Nat.le_refl _) (.cells #[.int .i64 cr, .int .i64 lr, .slice br Mr jr, .int .i64 er] 34)))
  replace Rdq := Lib.hid (Rdq.out.mono ((Below.refl _ w13).alloc (Nat.le_refl _) (.cells #[.int .i64 cr, .int .i64 lr, .slice br Mr jr, .int .i64 er] 34)))
  replace Rrq := Lib.hid (Rrq.out.mono ((Below.refl _ w13).alloc (Nat.le_refl _) (.cells #[.int .i64 cr, .int .i64 lr, .slice br Mr jr, .int .i64 er] 34)))
  have Lyr := Lib.hid (show w.heap.size ≤ gyr from by rw [← hgyr]; exact B.out.size)
  replace B := Lib.hid (B.out.alloc B.out.size (.cells #[.int .i64 cr, .int .i64 lr, .slice br Mr jr, .int .i64 er] 34))
  go_upto_region 10 with (fail)
  try rw [hgyr]
  generalize hw : w13.alloc (.cells #[.int .i64 cr, .int .i64 lr, .slice br Mr jr, .int .i64 er] 34) = w14 at Kb Kp Kxm Kxd Kxr Kxf Kym Kyd Kyr Rm Rd Rr Rf Rmq Rdq Rrq B ⊢
  clear bbc0 bbc1 bbc2 bpc0 bpc1 bxmc0 bxmc1 bxmc2 bxdc0 bxdc1 bxdc2 bxrc0 bxrc1 bxrc2 bxfc0 bxfc1 bxfc2 bymc0 bymc1 bymc2 bymc3 bydc0 bydc1 bydc2 bydc3
  clear hw hgyr
  obtain ⟨bbc0, bbc1, bbc2⟩ := three Kb.out
  obtain ⟨bpc0, bpc1⟩ := twob Kp.out
  obtain ⟨bxmc0, bxmc1, bxmc2⟩ := three Kxm.out
  obtain ⟨bxdc0, bxdc1, bxdc2⟩ := three Kxd.out
  obtain ⟨bxrc0, bxrc1, bxrc2⟩ := three Kxr.out
  obtain ⟨bxfc0, bxfc1, bxfc2⟩ := three Kxf.out
  obtain ⟨bymc0, bymc1, bymc2, bymc3⟩ := four Kym.out
  obtain ⟨bydc0, bydc1, bydc2, bydc3⟩ := four Kyd.out
  obtain ⟨byrc0, byrc1, byrc2, byrc3⟩ := four Kyr.out
  go_wp2_with fail
  refine (Qf.out _ (HP.out.mono B.out)).mono ?_
  rintro e w15 ⟨⟨bf, jf, rfl, hr⟩, hb⟩
  have Rfq := Lib.hid hr
  replace Kb := Lib.hid (Kb.out.below hb Kb.out.lt)
  replace Kp := Lib.hid (Kp.out.below hb Kp.out.lt)
  replace Kxm := Lib.hid (Kxm.out.below hb Kxm.out.lt)
  replace Kxd := Lib.hid (Kxd.out.below hb Kxd.out.lt)
  replace Kxr := Lib.hid (Kxr.out.below hb Kxr.out.lt)
  replace Kxf := Lib.hid (Kxf.out.below hb Kxf.out.lt)
  replace Kym := Lib.hid (Kym.out.below hb Kym.out.lt)
  replace Kyd := Lib.hid (Kyd.out.below hb Kyd.out.lt)
  replace Kyr := Lib.hid (Kyr.out.below hb Kyr.out.lt)
  replace Rm := Lib.hid (Rm.out.mono hb)
  replace Rd := Lib.hid (Rd.out.mono hb)
  replace Rr := Lib.hid (Rr.out.mono hb)
  replace Rf := Lib.hid (Rf.out.mono hb)
  replace Rmq := Lib.hid (Rmq.out.mono hb)
  replace Rdq := Lib.hid (Rdq.out.mono hb)
  replace Rrq := Lib.hid (Rrq.out.mono hb)
  replace B := Lib.hid (B.out.trans (hb.mono B.out.size))
  clear bbc0 bbc1 bbc2 bpc0 bpc1 bxmc0 bxmc1 bxmc2 bxdc0 bxdc1 bxdc2 bxrc0 bxrc1 bxrc2 bxfc0 bxfc1 bxfc2 bymc0 bymc1 bymc2 bymc3 bydc0 bydc1 bydc2 bydc3 byrc0 byrc1 byrc2 byrc3
  clear hb hr
  obtain ⟨bbc0, bbc1, bbc2⟩ := three Kb.out
  obtain ⟨bpc0, bpc1⟩ := twob Kp.out
  obtain ⟨bxmc0, bxmc1, bxmc2⟩ := three Kxm.out
  obtain ⟨bxdc0, bxdc1, bxdc2⟩ := three Kxd.out
  obtain ⟨bxrc0, bxrc1, bxrc2⟩ := three Kxr.out
  obtain ⟨bxfc0, bxfc1, bxfc2⟩ := three Kxf.out
  obtain ⟨bymc0, bymc1, bymc2, bymc3⟩ := four Kym.out
  obtain ⟨bydc0, bydc1, bydc2, bydc3⟩ := four Kyd.out
  obtain ⟨byrc0, byrc1, byrc2, byrc3⟩ := four Kyr.out
  obtain ⟨gyf, hgyf⟩ : ∃ G, w15.heap.size = G := ⟨_, rfl⟩
  have Kyf := Lib.hid (show Blk (w15.alloc (.cells #[.int .i64 cf, .int .i64 lf, .slice bf Mf jf, .int .i64 ef] 34)) gyf 34 #[.int .i64 cf, .int .i64 lf, .slice bf Mf jf, .int .i64 ef] from Blk.new' w15 _ _ _ hgyf rfl)
  have Nbyf := Lib.hid (show G < gyf from by rw [← hgyf]; exact Kb.out.lt)
  replace Kb := Lib.hid (Kb.out.alloc (.cells #[.int .i64 cf, .int .i64 lf, .slice bf Mf jf, .int .i64 ef] 34))
  have Npyf := Lib.hid (show G + 1 < gyf from by rw [← hgyf]; exact Kp.out.lt)
  replace Kp := Lib.hid (Kp.out.alloc (.cells #[.int .i64 cf, .int .i64 lf, .slice bf Mf jf, .int .i64 ef] 34))
  have Nxmyf := Lib.hid (show gxm < gyf from by rw [← hgyf]; exact Kxm.out.lt)
  replace Kxm := Lib.hid (Kxm.out.alloc (.cells #[.int .i64 cf, .int .i64 lf, .slice bf Mf jf, .int .i64 ef] 34))
  have Nxdyf := Lib.hid (show gxd < gyf from by rw [← hgyf]; exact Kxd.out.lt)
  replace Kxd := Lib.hid (Kxd.out.alloc (.cells #[.int .i64 cf, .int .i64 lf, .slice bf Mf jf, .int .i64 ef] 34))
  have Nxryf := Lib.hid (show gxr < gyf from by rw [← hgyf]; exact Kxr.out.lt)
  replace Kxr := Lib.hid (Kxr.out.alloc (.cells #[.int .i64 cf, .int .i64 lf, .slice bf Mf jf, .int .i64 ef] 34))
  have Nxfyf := Lib.hid (show gxf < gyf from by rw [← hgyf]; exact Kxf.out.lt)
  replace Kxf := Lib.hid (Kxf.out.alloc (.cells #[.int .i64 cf, .int .i64 lf, .slice bf Mf jf, .int .i64 ef] 34))
  have Nymyf := Lib.hid (show gym < gyf from by rw [← hgyf]; exact Kym.out.lt)
  replace Kym := Lib.hid (Kym.out.alloc (.cells #[.int .i64 cf, .int .i64 lf, .slice bf Mf jf, .int .i64 ef] 34))
  have Nydyf := Lib.hid (show gyd < gyf from by rw [← hgyf]; exact Kyd.out.lt)
  replace Kyd := Lib.hid (Kyd.out.alloc (.cells #[.int .i64 cf, .int .i64 lf, .slice bf Mf jf, .int .i64 ef] 34))
  have Nyryf := Lib.hid (show gyr < gyf from by rw [← hgyf]; exact Kyr.out.lt)
  replace Kyr := Lib.hid (Kyr.out.alloc (.cells #[.int .i64 cf, .int .i64 lf, .slice bf Mf jf, .int .i64 ef] 34))
  replace Rm := Lib.hid (Rm.out.mono ((Below.refl _ w15).alloc (Nat.le_refl _) (.cells #[.int .i64 cf, .int .i64 lf, .slice bf Mf jf, .int .i64 ef] 34)))
  replace Rd := Lib.hid (Rd.out.mono ((Below.refl _ w15).alloc (Nat.le_refl _) (.cells #[.int .i64 cf, .int .i64 lf, .slice bf Mf jf, .int .i64 ef] 34)))
  replace Rr := Lib.hid (Rr.out.mono ((Below.refl _ w15).alloc (Nat.le_refl _) (.cells #[.int .i64 cf, .int .i64 lf, .slice bf Mf jf, .int .i64 ef] 34)))
  replace Rf := Lib.hid (Rf.out.mono ((Below.refl _ w15).alloc (Nat.le_refl _) (.cells #[.int .i64 cf, .int .i64 lf, .slice bf Mf jf, .int .i64 ef] 34)))
  replace Rmq := Lib.hid (Rmq.out.mono ((Below.refl _ w15).alloc (Nat.le_refl _) (.cells #[.int .i64 cf, .int .i64 lf, .slice bf Mf jf, .int .i64 ef] 34)))
  replace Rdq := Lib.hid (Rdq.out.mono ((Below.refl _ w15).alloc (Nat.le_refl _) (.cells #[.int .i64 cf, .int .i64 lf, .slice bf Mf jf, .int .i64 ef] 34)))
  replace Rrq := Lib.hid (Rrq.out.mono ((Below.refl _ w15).alloc (Nat.le_refl _) (.cells #[.int .i64 cf, .int .i64 lf, .slice bf Mf jf, .int .i64 ef] 34)))
  replace Rfq := Lib.hid (Rfq.out.mono ((Below.refl _ w15).alloc (Nat.le_refl _) (.cells #[.int .i64 cf, .int .i64 lf, .slice bf Mf jf, .int .i64 ef] 34)))
  have Lyf := Lib.hid (show w.heap.size ≤ gyf from by rw [← hgyf]; exact B.out.size)
  replace B := Lib.hid (B.out.alloc B.out.size (.cells #[.int .i64 cf, .int .i64 lf, .slice bf Mf jf, .int .i64 ef] 34))
  go_upto_region 11 with (fail)
  try rw [hgyf]
  generalize hw : w15.alloc (.cells #[.int .i64 cf, .int .i64 lf, .slice bf Mf jf, .int .i64 ef] 34) = w16 at Kb Kp Kxm Kxd Kxr Kxf Kym Kyd Kyr Kyf Rm Rd Rr Rf Rmq Rdq Rrq Rfq B ⊢
  clear bbc0 bbc1 bbc2 bpc0 bpc1 bxmc0 bxmc1 bxmc2 bxdc0 bxdc1 bxdc2 bxrc0 bxrc1 bxrc2 bxfc0 bxfc1 bxfc2 bymc0 bymc1 bymc2 bymc3 bydc0 bydc1 bydc2 bydc3 byrc0 byrc1 byrc2 byrc3
  clear hw hgyf
  obtain ⟨bbc0, bbc1, bbc2⟩ := three Kb.out
  obtain ⟨bpc0, bpc1⟩ := twob Kp.out
  obtain ⟨bxmc0, bxmc1, bxmc2⟩ := three Kxm.out
  obtain ⟨bxdc0, bxdc1, bxdc2⟩ := three Kxd.out
  obtain ⟨bxrc0, bxrc1, bxrc2⟩ := three Kxr.out
  obtain ⟨bxfc0, bxfc1, bxfc2⟩ := three Kxf.out
  obtain ⟨bymc0, bymc1, bymc2, bymc3⟩ := four Kym.out
  obtain ⟨bydc0, bydc1, bydc2, bydc3⟩ := four Kyd.out
  obtain ⟨byrc0, byrc1, byrc2, byrc3⟩ := four Kyr.out
  obtain ⟨byfc0, byfc1, byfc2, byfc3⟩ := four Kyf.out
  clear bbc0 bbc1 bbc2 bpc0 bpc1 bxmc0 bxmc1 bxmc2 bxdc0 bxdc1 bxdc2 bxrc0 bxrc1 bxrc2 bxfc0 bxfc1 bxfc2 bymc0 bymc1 bymc2 bymc3 bydc0 bydc1 bydc2 bydc3 byrc0 byrc1 byrc2 byrc3 byfc0 byfc1 byfc2 byfc3
  have HP2 := Lib.hid (HP.out.mono B.out)
  have ZPV := Lib.hid (fun (d : Nat) (os : Array Obj) => PV.out (grow (redrawn w16 d) os) (HP2.out.mono (below_regrown _ _ _)))
  have ZQV := Lib.hid (fun (d : Nat) (os : Array Obj) => QV.out (grow (redrawn w16 d) os) (HP2.out.mono (below_regrown _ _ _)))
  have ZSm := Lib.hid (fun (d : Nat) (os : Array Obj) => Sm.out am bm km jm (grow (redrawn w16 d) os) (Rm.out.mono (below_regrown _ _ _)) (Rmq.out.mono (below_regrown _ _ _)))
  have ZSd := Lib.hid (fun (d : Nat) (os : Array Obj) => Sd.out ad bd kd jd (grow (redrawn w16 d) os) (Rd.out.mono (below_regrown _ _ _)) (Rdq.out.mono (below_regrown _ _ _)))
  have ZSr := Lib.hid (fun (d : Nat) (os : Array Obj) => Sr.out ar br kr jr (grow (redrawn w16 d) os) (Rr.out.mono (below_regrown _ _ _)) (Rrq.out.mono (below_regrown _ _ _)))
  obtain ⟨bbc0, bbc1, bbc2⟩ := three Kb.out
  obtain ⟨bpc0, bpc1⟩ := twob Kp.out
  obtain ⟨bxmc0, bxmc1, bxmc2⟩ := three Kxm.out
  obtain ⟨bxdc0, bxdc1, bxdc2⟩ := three Kxd.out
  obtain ⟨bxrc0, bxrc1, bxrc2⟩ := three Kxr.out
  obtain ⟨bxfc0, bxfc1, bxfc2⟩ := three Kxf.out
  obtain ⟨bymc0, bymc1, bymc2, bymc3⟩ := four Kym.out
  obtain ⟨bydc0, bydc1, bydc2, bydc3⟩ := four Kyd.out
  obtain ⟨byrc0, byrc1, byrc2, byrc3⟩ := four Kyr.out
  obtain ⟨byfc0, byfc1, byfc2, byfc3⟩ := four Kyf.out
  have gc := grow_cell3
  have zzb := Kb.out.lt
  have zzp := Kp.out.lt
  have zzxm := Kxm.out.lt
  have zzxd := Kxd.out.lt
  have zzxr := Kxr.out.lt
  have zzxf := Kxf.out.lt
  have zzym := Kym.out.lt
  have zzyd := Kyd.out.lt
  have zzyr := Kyr.out.lt
  have zzyf := Kyf.out.lt
  go_wp2_with fail
  refine wp_region_quiet_below (by kernel_rfl) (by kernel_rfl) ?_
  repeat (go_big_quiet_step (first | (with_reducible exact Calls.regrown_of (ZPV.out _ _)) | (with_reducible exact Calls.regrown_of (ZQV.out _ _)) | (with_reducible exact Calls.regrown_of (ZSm.out _ _)) | (with_reducible exact Calls.regrown_of (ZSd.out _ _)) | (with_reducible exact Calls.regrown_of (ZSr.out _ _))))
  refine wpQuiet_nil ?_
  intro w17 hw'
  obtain ⟨⟨dq, osq⟩, hw''⟩ := hw'
  have hb := below_of_grow3 hw''
  clear hw'' gc zzb zzp zzxm zzxd zzxr zzxf zzym zzyd zzyr zzyf
  replace Kb := Lib.hid (Kb.out.below hb Kb.out.lt)
  replace Kp := Lib.hid (Kp.out.below hb Kp.out.lt)
  replace Kxm := Lib.hid (Kxm.out.below hb Kxm.out.lt)
  replace Kxd := Lib.hid (Kxd.out.below hb Kxd.out.lt)
  replace Kxr := Lib.hid (Kxr.out.below hb Kxr.out.lt)
  replace Kxf := Lib.hid (Kxf.out.below hb Kxf.out.lt)
  replace Kym := Lib.hid (Kym.out.below hb Kym.out.lt)
  replace Kyd := Lib.hid (Kyd.out.below hb Kyd.out.lt)
  replace Kyr := Lib.hid (Kyr.out.below hb Kyr.out.lt)
  replace Kyf := Lib.hid (Kyf.out.below hb Kyf.out.lt)
  replace Rm := Lib.hid (Rm.out.mono hb)
  replace Rd := Lib.hid (Rd.out.mono hb)
  replace Rr := Lib.hid (Rr.out.mono hb)
  replace Rf := Lib.hid (Rf.out.mono hb)
  replace Rmq := Lib.hid (Rmq.out.mono hb)
  replace Rdq := Lib.hid (Rdq.out.mono hb)
  replace Rrq := Lib.hid (Rrq.out.mono hb)
  replace Rfq := Lib.hid (Rfq.out.mono hb)
  replace B := Lib.hid (B.out.trans (hb.mono B.out.size))
  clear hb
  clear bbc0 bbc1 bbc2 bpc0 bpc1 bxmc0 bxmc1 bxmc2 bxdc0 bxdc1 bxdc2 bxrc0 bxrc1 bxrc2 bxfc0 bxfc1 bxfc2 bymc0 bymc1 bymc2 bymc3 bydc0 bydc1 bydc2 bydc3 byrc0 byrc1 byrc2 byrc3 byfc0 byfc1 byfc2 byfc3
  clear HP2 ZPV ZQV ZSm ZSd ZSr
  have HP2 := Lib.hid (HP.out.mono B.out)
  have QN := Lib.hid (fun (d : Nat) (os : Array Obj) => SN.out (grow (redrawn w17 d) os))
  have ZPDT := Lib.hid (fun (d : Nat) (os : Array Obj) => PDT.out (grow (redrawn w17 d) os) (HP2.out.mono (below_regrown _ _ _)))
  have ZQDT := Lib.hid (fun (d : Nat) (os : Array Obj) => QDT.out (grow (redrawn w17 d) os) (HP2.out.mono (below_regrown _ _ _)))
  have ZPOT := Lib.hid (fun (d : Nat) (os : Array Obj) => POT.out (grow (redrawn w17 d) os) (HP2.out.mono (below_regrown _ _ _)))
  have ZQOT := Lib.hid (fun (d : Nat) (os : Array Obj) => QOT.out (grow (redrawn w17 d) os) (HP2.out.mono (below_regrown _ _ _)))
  have ZSf := Lib.hid (fun (d : Nat) (os : Array Obj) => Sf.out af bf kf jf (grow (redrawn w17 d) os) (Rf.out.mono (below_regrown _ _ _)) (Rfq.out.mono (below_regrown _ _ _)))
  obtain ⟨bbc0, bbc1, bbc2⟩ := three Kb.out
  obtain ⟨bpc0, bpc1⟩ := twob Kp.out
  obtain ⟨bxmc0, bxmc1, bxmc2⟩ := three Kxm.out
  obtain ⟨bxdc0, bxdc1, bxdc2⟩ := three Kxd.out
  obtain ⟨bxrc0, bxrc1, bxrc2⟩ := three Kxr.out
  obtain ⟨bxfc0, bxfc1, bxfc2⟩ := three Kxf.out
  obtain ⟨bymc0, bymc1, bymc2, bymc3⟩ := four Kym.out
  obtain ⟨bydc0, bydc1, bydc2, bydc3⟩ := four Kyd.out
  obtain ⟨byrc0, byrc1, byrc2, byrc3⟩ := four Kyr.out
  obtain ⟨byfc0, byfc1, byfc2, byfc3⟩ := four Kyf.out
  have gc := grow_cell3
  have zzb := Kb.out.lt
  have zzp := Kp.out.lt
  have zzxm := Kxm.out.lt
  have zzxd := Kxd.out.lt
  have zzxr := Kxr.out.lt
  have zzxf := Kxf.out.lt
  have zzym := Kym.out.lt
  have zzyd := Kyd.out.lt
  have zzyr := Kyr.out.lt
  have zzyf := Kyf.out.lt
  go_wp2_with fail
  refine wp_region_quiet_below (by kernel_rfl) (by kernel_rfl) ?_
  repeat (go_big_quiet_step (first | (with_reducible exact Calls.regrown_of (QN.out _ _)) | (with_reducible exact Calls.regrown_of (ZPDT.out _ _)) | (with_reducible exact Calls.regrown_of (ZQDT.out _ _)) | (with_reducible exact Calls.regrown_of (ZPOT.out _ _)) | (with_reducible exact Calls.regrown_of (ZQOT.out _ _)) | (with_reducible exact Calls.regrown_of (ZSf.out _ _))))
  refine wpQuiet_nil ?_
  intro w18 hw'
  obtain ⟨⟨dq, osq⟩, hw''⟩ := hw'
  have hb := below_of_grow3 hw''
  clear hw'' gc zzb zzp zzxm zzxd zzxr zzxf zzym zzyd zzyr zzyf
  replace Kb := Lib.hid (Kb.out.below hb Kb.out.lt)
  replace Kp := Lib.hid (Kp.out.below hb Kp.out.lt)
  replace Kxm := Lib.hid (Kxm.out.below hb Kxm.out.lt)
  replace Kxd := Lib.hid (Kxd.out.below hb Kxd.out.lt)
  replace Kxr := Lib.hid (Kxr.out.below hb Kxr.out.lt)
  replace Kxf := Lib.hid (Kxf.out.below hb Kxf.out.lt)
  replace Kym := Lib.hid (Kym.out.below hb Kym.out.lt)
  replace Kyd := Lib.hid (Kyd.out.below hb Kyd.out.lt)
  replace Kyr := Lib.hid (Kyr.out.below hb Kyr.out.lt)
  replace Kyf := Lib.hid (Kyf.out.below hb Kyf.out.lt)
  replace Rm := Lib.hid (Rm.out.mono hb)
  replace Rd := Lib.hid (Rd.out.mono hb)
  replace Rr := Lib.hid (Rr.out.mono hb)
  replace Rf := Lib.hid (Rf.out.mono hb)
  replace Rmq := Lib.hid (Rmq.out.mono hb)
  replace Rdq := Lib.hid (Rdq.out.mono hb)
  replace Rrq := Lib.hid (Rrq.out.mono hb)
  replace Rfq := Lib.hid (Rfq.out.mono hb)
  replace B := Lib.hid (B.out.trans (hb.mono B.out.size))
  clear hb
  clear bbc0 bbc1 bbc2 bpc0 bpc1 bxmc0 bxmc1 bxmc2 bxdc0 bxdc1 bxdc2 bxrc0 bxrc1 bxrc2 bxfc0 bxfc1 bxfc2 bymc0 bymc1 bymc2 bymc3 bydc0 bydc1 bydc2 bydc3 byrc0 byrc1 byrc2 byrc3 byfc0 byfc1 byfc2 byfc3
  go_wp2
  go_ret
  exact ⟨rfl, B.out⟩
set_option maxRecDepth 100000 in
set_option maxHeartbeats 8000000 in
theorem law3_full (cap len : Int) (a : Option Addr) (c : Nat) (l : List Rw) (wi ga n : Int) (lo hi : Int) (w : World) (hp : RwA w a l) (hl : l.length ≤ 10001) (h : 40 < l.length) (h2 : ¬ l.length < 10000) : Calls Try.prog 3 #[.agg #[.int .i64 cap, .int .i64 len, .slice a l.length c], .int .i64 wi, .int .i64 ga, .int .i64 n, per lo hi] w fun e w' => e = .returned (.bool true) ∧ Below w.heap.size w w' := by
  have HP := Lib.hid hp
  have SN := Lib.hid (fun X : World => sanity_any X)
  obtain ⟨N, hN⟩ : ∃ N, l.length = N := ⟨_, rfl⟩
  rw [hN] at h h2
  obtain ⟨cm, lm, Lm, em, hLm, Pm, Qm⟩ := new_both cap len a c l
  have Pm := Lib.hid Pm
  have Qm := Lib.hid Qm
  have Sm := Lib.hid (fun (a b : Option Addr) (c c2 : Nat) (X : World) (q : RwA X a Lm) (q2 : RwA X b Lm) => same_bank cm lm a b c c2 Lm X q q2 hLm)
  obtain ⟨cd, ld, Ld, ed, hLd, Pd, Qd⟩ := deal_both cap len wi ga n a c l (by omega)
  have Pd := Lib.hid Pd
  have Qd := Lib.hid Qd
  have Sd := Lib.hid (fun (a b : Option Addr) (c c2 : Nat) (X : World) (q : RwA X a Ld) (q2 : RwA X b Ld) => same_bank cd ld a b c c2 Ld X q q2 hLd)
  obtain ⟨cr, lr, Lr, er, hLr, Pr, Qr⟩ := ret_both cap len wi ga n a c l (by omega)
  have Pr := Lib.hid Pr
  have Qr := Lib.hid Qr
  have Sr := Lib.hid (fun (a b : Option Addr) (c c2 : Nat) (X : World) (q : RwA X a Lr) (q2 : RwA X b Lr) => same_bank cr lr a b c c2 Lr X q q2 hLr)
  obtain ⟨cf, lf, Lf, ef, hLf, Pf, Qf⟩ := forget_both cap len lo hi a c l (by omega)
  have Pf := Lib.hid Pf
  have Qf := Lib.hid Qf
  have Sf := Lib.hid (fun (a b : Option Addr) (c c2 : Nat) (X : World) (q : RwA X a Lf) (q2 : RwA X b Lf) => same_bank cf lf a b c c2 Lf X q q2 hLf)
  obtain ⟨vV, PV, QV⟩ := valid_both cap len a c l (by omega)
  have PV := Lib.hid PV
  have QV := Lib.hid QV
  obtain ⟨vDT, PDT, QDT⟩ := dealt_both cap len wi ga a c l (by omega)
  have PDT := Lib.hid PDT
  have QDT := Lib.hid QDT
  obtain ⟨vOT, POT, QOT⟩ := out_both cap len wi a c l (by omega)
  have POT := Lib.hid POT
  have QOT := Lib.hid QOT
  simp only [hN] at Pd Qd Pr Qr Pf Qf PV QV PDT QDT POT QOT
  rw [hN]
  have t1 : decide ((40 : Int) < (N : Int)) = true := decide_eq_true (by omega)
  have t2 : decide ((N : Int) < (10000 : Int)) = false := decide_eq_false (by omega)
  have t3 : decide ((10001 : Int) < (N : Int)) = false := decide_eq_false (by omega)
  clear hp hN hl hLm hLd hLr hLf h h2
  obtain ⟨Mm, hMm⟩ : ∃ M, Lm.length = M := ⟨_, rfl⟩
  simp only [hMm] at Pm Qm Sm
  clear hMm
  obtain ⟨Md, hMd⟩ : ∃ M, Ld.length = M := ⟨_, rfl⟩
  simp only [hMd] at Pd Qd Sd
  clear hMd
  obtain ⟨Mr, hMr⟩ : ∃ M, Lr.length = M := ⟨_, rfl⟩
  simp only [hMr] at Pr Qr Sr
  clear hMr
  obtain ⟨Mf, hMf⟩ : ∃ M, Lf.length = M := ⟨_, rfl⟩
  simp only [hMf] at Pf Qf Sf
  clear hMf
  go_enter Try.func3, Try.ntmps3
  obtain ⟨G, hG⟩ : ∃ G, w.heap.size = G := ⟨_, rfl⟩
  have HG := Lib.hid hG
  have Kb := Lib.hid (show Blk ((w.alloc (.cells #[.int .i64 cap, .int .i64 len, .slice a N c] 24)).alloc (.cells #[.int .i64 lo, .int .i64 hi] 26)) (G) 24 #[.int .i64 cap, .int .i64 len, .slice a N c] from (Blk.new' _ _ _ _ hG rfl).alloc _)
  have Kp := Lib.hid (show Blk ((w.alloc (.cells #[.int .i64 cap, .int .i64 len, .slice a N c] 24)).alloc (.cells #[.int .i64 lo, .int .i64 hi] 26)) (G + 1) 26 #[.int .i64 lo, .int .i64 hi] from Blk.new' _ _ _ _ (by rw [World.size_alloc, hG]) rfl)
  have B := Lib.hid (show Below w.heap.size w ((w.alloc (.cells #[.int .i64 cap, .int .i64 len, .slice a N c] 24)).alloc (.cells #[.int .i64 lo, .int .i64 hi] 26)) by (repeat' (first | (with_reducible exact Below.refl _ _) | (with_reducible assumption) | (with_reducible refine Below.alloc ?_ ?_ _) | (with_reducible refine Below.drew ?_) | (with_reducible refine below_dn ?_) | (with_reducible refine Below.setCell ?_ ?_ _) | (with_reducible exact Nat.le_refl _) | omega | (simp only [World.size_alloc, World.size_setCell, World.size_drew]; omega) | (simp; omega) | (simp; done))))
  go_upto_region 1 with (fail)
  try rw [hG]
  generalize hw0 : ((w.alloc (.cells #[.int .i64 cap, .int .i64 len, .slice a N c] 24)).alloc (.cells #[.int .i64 lo, .int .i64 hi] 26)) = w0 at Kb Kp B ⊢
  clear hw0 hG
  obtain ⟨bbc0, bbc1, bbc2⟩ := three Kb.out
  obtain ⟨bpc0, bpc1⟩ := twob Kp.out
  go_wp2_with fail
  refine (Pm.out _ (HP.out.mono B.out)).mono ?_
  rintro e w1 ⟨⟨am, km, rfl, hr⟩, hb⟩
  have Rm := Lib.hid hr
  replace Kb := Lib.hid (Kb.out.below hb Kb.out.lt)
  replace Kp := Lib.hid (Kp.out.below hb Kp.out.lt)
  replace B := Lib.hid (B.out.trans (hb.mono B.out.size))
  clear bbc0 bbc1 bbc2 bpc0 bpc1
  clear hb hr
  obtain ⟨bbc0, bbc1, bbc2⟩ := three Kb.out
  obtain ⟨bpc0, bpc1⟩ := twob Kp.out
  obtain ⟨gxm, hgxm⟩ : ∃ G, w1.heap.size = G := ⟨_, rfl⟩
  have Kxm := Lib.hid (show Blk (w1.alloc (.cells #[.int .i64 cm, .int .i64 lm, .slice am Mm km] 24)) gxm 24 #[.int .i64 cm, .int .i64 lm, .slice am Mm km] from Blk.new' w1 _ _ _ hgxm rfl)
  have Nbxm := Lib.hid (show G < gxm from by rw [← hgxm]; exact Kb.out.lt)
  replace Kb := Lib.hid (Kb.out.alloc (.cells #[.int .i64 cm, .int .i64 lm, .slice am Mm km] 24))
  have Npxm := Lib.hid (show G + 1 < gxm from by rw [← hgxm]; exact Kp.out.lt)
  replace Kp := Lib.hid (Kp.out.alloc (.cells #[.int .i64 cm, .int .i64 lm, .slice am Mm km] 24))
  replace Rm := Lib.hid (Rm.out.mono ((Below.refl _ w1).alloc (Nat.le_refl _) (.cells #[.int .i64 cm, .int .i64 lm, .slice am Mm km] 24)))
  have Lxm := Lib.hid (show w.heap.size ≤ gxm from by rw [← hgxm]; exact B.out.size)
  replace B := Lib.hid (B.out.alloc B.out.size (.cells #[.int .i64 cm, .int .i64 lm, .slice am Mm km] 24))
  go_upto_region 4 with (fail)
  try rw [hgxm]
  generalize hw : w1.alloc (.cells #[.int .i64 cm, .int .i64 lm, .slice am Mm km] 24) = w2 at Kb Kp Kxm Rm B ⊢
  clear bbc0 bbc1 bbc2 bpc0 bpc1
  clear hw hgxm
  obtain ⟨bbc0, bbc1, bbc2⟩ := three Kb.out
  obtain ⟨bpc0, bpc1⟩ := twob Kp.out
  obtain ⟨bxmc0, bxmc1, bxmc2⟩ := three Kxm.out
  go_wp2_with fail
  refine (Pd.out _ (HP.out.mono B.out)).mono ?_
  rintro e w3 ⟨⟨ad, kd, rfl, hr⟩, hb⟩
  have Rd := Lib.hid hr
  replace Kb := Lib.hid (Kb.out.below hb Kb.out.lt)
  replace Kp := Lib.hid (Kp.out.below hb Kp.out.lt)
  replace Kxm := Lib.hid (Kxm.out.below hb Kxm.out.lt)
  replace Rm := Lib.hid (Rm.out.mono hb)
  replace B := Lib.hid (B.out.trans (hb.mono B.out.size))
  clear bbc0 bbc1 bbc2 bpc0 bpc1 bxmc0 bxmc1 bxmc2
  clear hb hr
  obtain ⟨bbc0, bbc1, bbc2⟩ := three Kb.out
  obtain ⟨bpc0, bpc1⟩ := twob Kp.out
  obtain ⟨bxmc0, bxmc1, bxmc2⟩ := three Kxm.out
  obtain ⟨gxd, hgxd⟩ : ∃ G, w3.heap.size = G := ⟨_, rfl⟩
  have Kxd := Lib.hid (show Blk (w3.alloc (.cells #[.int .i64 cd, .int .i64 ld, .slice ad Md kd] 24)) gxd 24 #[.int .i64 cd, .int .i64 ld, .slice ad Md kd] from Blk.new' w3 _ _ _ hgxd rfl)
  have Nbxd := Lib.hid (show G < gxd from by rw [← hgxd]; exact Kb.out.lt)
  replace Kb := Lib.hid (Kb.out.alloc (.cells #[.int .i64 cd, .int .i64 ld, .slice ad Md kd] 24))
  have Npxd := Lib.hid (show G + 1 < gxd from by rw [← hgxd]; exact Kp.out.lt)
  replace Kp := Lib.hid (Kp.out.alloc (.cells #[.int .i64 cd, .int .i64 ld, .slice ad Md kd] 24))
  have Nxmxd := Lib.hid (show gxm < gxd from by rw [← hgxd]; exact Kxm.out.lt)
  replace Kxm := Lib.hid (Kxm.out.alloc (.cells #[.int .i64 cd, .int .i64 ld, .slice ad Md kd] 24))
  replace Rm := Lib.hid (Rm.out.mono ((Below.refl _ w3).alloc (Nat.le_refl _) (.cells #[.int .i64 cd, .int .i64 ld, .slice ad Md kd] 24)))
  replace Rd := Lib.hid (Rd.out.mono ((Below.refl _ w3).alloc (Nat.le_refl _) (.cells #[.int .i64 cd, .int .i64 ld, .slice ad Md kd] 24)))
  have Lxd := Lib.hid (show w.heap.size ≤ gxd from by rw [← hgxd]; exact B.out.size)
  replace B := Lib.hid (B.out.alloc B.out.size (.cells #[.int .i64 cd, .int .i64 ld, .slice ad Md kd] 24))
  go_upto_region 5 with (fail)
  try rw [hgxd]
  generalize hw : w3.alloc (.cells #[.int .i64 cd, .int .i64 ld, .slice ad Md kd] 24) = w4 at Kb Kp Kxm Kxd Rm Rd B ⊢
  clear bbc0 bbc1 bbc2 bpc0 bpc1 bxmc0 bxmc1 bxmc2
  clear hw hgxd
  obtain ⟨bbc0, bbc1, bbc2⟩ := three Kb.out
  obtain ⟨bpc0, bpc1⟩ := twob Kp.out
  obtain ⟨bxmc0, bxmc1, bxmc2⟩ := three Kxm.out
  obtain ⟨bxdc0, bxdc1, bxdc2⟩ := three Kxd.out
  go_wp2_with fail
  refine (Pr.out _ (HP.out.mono B.out)).mono ?_
  rintro e w5 ⟨⟨ar, kr, rfl, hr⟩, hb⟩
  have Rr := Lib.hid hr
  replace Kb := Lib.hid (Kb.out.below hb Kb.out.lt)
  replace Kp := Lib.hid (Kp.out.below hb Kp.out.lt)
  replace Kxm := Lib.hid (Kxm.out.below hb Kxm.out.lt)
  replace Kxd := Lib.hid (Kxd.out.below hb Kxd.out.lt)
  replace Rm := Lib.hid (Rm.out.mono hb)
  replace Rd := Lib.hid (Rd.out.mono hb)
  replace B := Lib.hid (B.out.trans (hb.mono B.out.size))
  clear bbc0 bbc1 bbc2 bpc0 bpc1 bxmc0 bxmc1 bxmc2 bxdc0 bxdc1 bxdc2
  clear hb hr
  obtain ⟨bbc0, bbc1, bbc2⟩ := three Kb.out
  obtain ⟨bpc0, bpc1⟩ := twob Kp.out
  obtain ⟨bxmc0, bxmc1, bxmc2⟩ := three Kxm.out
  obtain ⟨bxdc0, bxdc1, bxdc2⟩ := three Kxd.out
  obtain ⟨gxr, hgxr⟩ : ∃ G, w5.heap.size = G := ⟨_, rfl⟩
  have Kxr := Lib.hid (show Blk (w5.alloc (.cells #[.int .i64 cr, .int .i64 lr, .slice ar Mr kr] 24)) gxr 24 #[.int .i64 cr, .int .i64 lr, .slice ar Mr kr] from Blk.new' w5 _ _ _ hgxr rfl)
  have Nbxr := Lib.hid (show G < gxr from by rw [← hgxr]; exact Kb.out.lt)
  replace Kb := Lib.hid (Kb.out.alloc (.cells #[.int .i64 cr, .int .i64 lr, .slice ar Mr kr] 24))
  have Npxr := Lib.hid (show G + 1 < gxr from by rw [← hgxr]; exact Kp.out.lt)
  replace Kp := Lib.hid (Kp.out.alloc (.cells #[.int .i64 cr, .int .i64 lr, .slice ar Mr kr] 24))
  have Nxmxr := Lib.hid (show gxm < gxr from by rw [← hgxr]; exact Kxm.out.lt)
  replace Kxm := Lib.hid (Kxm.out.alloc (.cells #[.int .i64 cr, .int .i64 lr, .slice ar Mr kr] 24))
  have Nxdxr := Lib.hid (show gxd < gxr from by rw [← hgxr]; exact Kxd.out.lt)
  replace Kxd := Lib.hid (Kxd.out.alloc (.cells #[.int .i64 cr, .int .i64 lr, .slice ar Mr kr] 24))
  replace Rm := Lib.hid (Rm.out.mono ((Below.refl _ w5).alloc (Nat.le_refl _) (.cells #[.int .i64 cr, .int .i64 lr, .slice ar Mr kr] 24)))
  replace Rd := Lib.hid (Rd.out.mono ((Below.refl _ w5).alloc (Nat.le_refl _) (.cells #[.int .i64 cr, .int .i64 lr, .slice ar Mr kr] 24)))
  replace Rr := Lib.hid (Rr.out.mono ((Below.refl _ w5).alloc (Nat.le_refl _) (.cells #[.int .i64 cr, .int .i64 lr, .slice ar Mr kr] 24)))
  have Lxr := Lib.hid (show w.heap.size ≤ gxr from by rw [← hgxr]; exact B.out.size)
  replace B := Lib.hid (B.out.alloc B.out.size (.cells #[.int .i64 cr, .int .i64 lr, .slice ar Mr kr] 24))
  go_upto_region 6 with (fail)
  try rw [hgxr]
  generalize hw : w5.alloc (.cells #[.int .i64 cr, .int .i64 lr, .slice ar Mr kr] 24) = w6 at Kb Kp Kxm Kxd Kxr Rm Rd Rr B ⊢
  clear bbc0 bbc1 bbc2 bpc0 bpc1 bxmc0 bxmc1 bxmc2 bxdc0 bxdc1 bxdc2
  clear hw hgxr
  obtain ⟨bbc0, bbc1, bbc2⟩ := three Kb.out
  obtain ⟨bpc0, bpc1⟩ := twob Kp.out
  obtain ⟨bxmc0, bxmc1, bxmc2⟩ := three Kxm.out
  obtain ⟨bxdc0, bxdc1, bxdc2⟩ := three Kxd.out
  obtain ⟨bxrc0, bxrc1, bxrc2⟩ := three Kxr.out
  go_wp2_with fail
  refine (Pf.out _ (HP.out.mono B.out)).mono ?_
  rintro e w7 ⟨⟨af, kf, rfl, hr⟩, hb⟩
  have Rf := Lib.hid hr
  replace Kb := Lib.hid (Kb.out.below hb Kb.out.lt)
  replace Kp := Lib.hid (Kp.out.below hb Kp.out.lt)
  replace Kxm := Lib.hid (Kxm.out.below hb Kxm.out.lt)
  replace Kxd := Lib.hid (Kxd.out.below hb Kxd.out.lt)
  replace Kxr := Lib.hid (Kxr.out.below hb Kxr.out.lt)
  replace Rm := Lib.hid (Rm.out.mono hb)
  replace Rd := Lib.hid (Rd.out.mono hb)
  replace Rr := Lib.hid (Rr.out.mono hb)
  replace B := Lib.hid (B.out.trans (hb.mono B.out.size))
  clear bbc0 bbc1 bbc2 bpc0 bpc1 bxmc0 bxmc1 bxmc2 bxdc0 bxdc1 bxdc2 bxrc0 bxrc1 bxrc2
  clear hb hr
  obtain ⟨bbc0, bbc1, bbc2⟩ := three Kb.out
  obtain ⟨bpc0, bpc1⟩ := twob Kp.out
  obtain ⟨bxmc0, bxmc1, bxmc2⟩ := three Kxm.out
  obtain ⟨bxdc0, bxdc1, bxdc2⟩ := three Kxd.out
  obtain ⟨bxrc0, bxrc1, bxrc2⟩ := three Kxr.out
  obtain ⟨gxf, hgxf⟩ : ∃ G, w7.heap.size = G := ⟨_, rfl⟩
  have Kxf := Lib.hid (show Blk (w7.alloc (.cells #[.int .i64 cf, .int .i64 lf, .slice af Mf kf] 24)) gxf 24 #[.int .i64 cf, .int .i64 lf, .slice af Mf kf] from Blk.new' w7 _ _ _ hgxf rfl)
  have Nbxf := Lib.hid (show G < gxf from by rw [← hgxf]; exact Kb.out.lt)
  replace Kb := Lib.hid (Kb.out.alloc (.cells #[.int .i64 cf, .int .i64 lf, .slice af Mf kf] 24))
  have Npxf := Lib.hid (show G + 1 < gxf from by rw [← hgxf]; exact Kp.out.lt)
  replace Kp := Lib.hid (Kp.out.alloc (.cells #[.int .i64 cf, .int .i64 lf, .slice af Mf kf] 24))
  have Nxmxf := Lib.hid (show gxm < gxf from by rw [← hgxf]; exact Kxm.out.lt)
  replace Kxm := Lib.hid (Kxm.out.alloc (.cells #[.int .i64 cf, .int .i64 lf, .slice af Mf kf] 24))
  have Nxdxf := Lib.hid (show gxd < gxf from by rw [← hgxf]; exact Kxd.out.lt)
  replace Kxd := Lib.hid (Kxd.out.alloc (.cells #[.int .i64 cf, .int .i64 lf, .slice af Mf kf] 24))
  have Nxrxf := Lib.hid (show gxr < gxf from by rw [← hgxf]; exact Kxr.out.lt)
  replace Kxr := Lib.hid (Kxr.out.alloc (.cells #[.int .i64 cf, .int .i64 lf, .slice af Mf kf] 24))
  replace Rm := Lib.hid (Rm.out.mono ((Below.refl _ w7).alloc (Nat.le_refl _) (.cells #[.int .i64 cf, .int .i64 lf, .slice af Mf kf] 24)))
  replace Rd := Lib.hid (Rd.out.mono ((Below.refl _ w7).alloc (Nat.le_refl _) (.cells #[.int .i64 cf, .int .i64 lf, .slice af Mf kf] 24)))
  replace Rr := Lib.hid (Rr.out.mono ((Below.refl _ w7).alloc (Nat.le_refl _) (.cells #[.int .i64 cf, .int .i64 lf, .slice af Mf kf] 24)))
  replace Rf := Lib.hid (Rf.out.mono ((Below.refl _ w7).alloc (Nat.le_refl _) (.cells #[.int .i64 cf, .int .i64 lf, .slice af Mf kf] 24)))
  have Lxf := Lib.hid (show w.heap.size ≤ gxf from by rw [← hgxf]; exact B.out.size)
  replace B := Lib.hid (B.out.alloc B.out.size (.cells #[.int .i64 cf, .int .i64 lf, .slice af Mf kf] 24))
  go_upto_region 7 with (fail)
  try rw [hgxf]
  generalize hw : w7.alloc (.cells #[.int .i64 cf, .int .i64 lf, .slice af Mf kf] 24) = w8 at Kb Kp Kxm Kxd Kxr Kxf Rm Rd Rr Rf B ⊢
  clear bbc0 bbc1 bbc2 bpc0 bpc1 bxmc0 bxmc1 bxmc2 bxdc0 bxdc1 bxdc2 bxrc0 bxrc1 bxrc2
  clear hw hgxf
  obtain ⟨bbc0, bbc1, bbc2⟩ := three Kb.out
  obtain ⟨bpc0, bpc1⟩ := twob Kp.out
  obtain ⟨bxmc0, bxmc1, bxmc2⟩ := three Kxm.out
  obtain ⟨bxdc0, bxdc1, bxdc2⟩ := three Kxd.out
  obtain ⟨bxrc0, bxrc1, bxrc2⟩ := three Kxr.out
  obtain ⟨bxfc0, bxfc1, bxfc2⟩ := three Kxf.out
  go_wp2_with fail
  refine (Qm.out _ (HP.out.mono B.out)).mono ?_
  rintro e w9 ⟨⟨bm, jm, rfl, hr⟩, hb⟩
  have Rmq := Lib.hid hr
  replace Kb := Lib.hid (Kb.out.below hb Kb.out.lt)
  replace Kp := Lib.hid (Kp.out.below hb Kp.out.lt)
  replace Kxm := Lib.hid (Kxm.out.below hb Kxm.out.lt)
  replace Kxd := Lib.hid (Kxd.out.below hb Kxd.out.lt)
  replace Kxr := Lib.hid (Kxr.out.below hb Kxr.out.lt)
  replace Kxf := Lib.hid (Kxf.out.below hb Kxf.out.lt)
  replace Rm := Lib.hid (Rm.out.mono hb)
  replace Rd := Lib.hid (Rd.out.mono hb)
  replace Rr := Lib.hid (Rr.out.mono hb)
  replace Rf := Lib.hid (Rf.out.mono hb)
  replace B := Lib.hid (B.out.trans (hb.mono B.out.size))
  clear bbc0 bbc1 bbc2 bpc0 bpc1 bxmc0 bxmc1 bxmc2 bxdc0 bxdc1 bxdc2 bxrc0 bxrc1 bxrc2 bxfc0 bxfc1 bxfc2
  clear hb hr
  obtain ⟨bbc0, bbc1, bbc2⟩ := three Kb.out
  obtain ⟨bpc0, bpc1⟩ := twob Kp.out
  obtain ⟨bxmc0, bxmc1, bxmc2⟩ := three Kxm.out
  obtain ⟨bxdc0, bxdc1, bxdc2⟩ := three Kxd.out
  obtain ⟨bxrc0, bxrc1, bxrc2⟩ := three Kxr.out
  obtain ⟨bxfc0, bxfc1, bxfc2⟩ := three Kxf.out
  obtain ⟨gym, hgym⟩ : ∃ G, w9.heap.size = G := ⟨_, rfl⟩
  have Kym := Lib.hid (show Blk (w9.alloc (.cells #[.int .i64 cm, .int .i64 lm, .slice bm Mm jm, .int .i64 em] 34)) gym 34 #[.int .i64 cm, .int .i64 lm, .slice bm Mm jm, .int .i64 em] from Blk.new' w9 _ _ _ hgym rfl)
  have Nbym := Lib.hid (show G < gym from by rw [← hgym]; exact Kb.out.lt)
  replace Kb := Lib.hid (Kb.out.alloc (.cells #[.int .i64 cm, .int .i64 lm, .slice bm Mm jm, .int .i64 em] 34))
  have Npym := Lib.hid (show G + 1 < gym from by rw [← hgym]; exact Kp.out.lt)
  replace Kp := Lib.hid (Kp.out.alloc (.cells #[.int .i64 cm, .int .i64 lm, .slice bm Mm jm, .int .i64 em] 34))
  have Nxmym := Lib.hid (show gxm < gym from by rw [← hgym]; exact Kxm.out.lt)
  replace Kxm := Lib.hid (Kxm.out.alloc (.cells #[.int .i64 cm, .int .i64 lm, .slice bm Mm jm, .int .i64 em] 34))
  have Nxdym := Lib.hid (show gxd < gym from by rw [← hgym]; exact Kxd.out.lt)
  replace Kxd := Lib.hid (Kxd.out.alloc (.cells #[.int .i64 cm, .int .i64 lm, .slice bm Mm jm, .int .i64 em] 34))
  have Nxrym := Lib.hid (show gxr < gym from by rw [← hgym]; exact Kxr.out.lt)
  replace Kxr := Lib.hid (Kxr.out.alloc (.cells #[.int .i64 cm, .int .i64 lm, .slice bm Mm jm, .int .i64 em] 34))
  have Nxfym := Lib.hid (show gxf < gym from by rw [← hgym]; exact Kxf.out.lt)
  replace Kxf := Lib.hid (Kxf.out.alloc (.cells #[.int .i64 cm, .int .i64 lm, .slice bm Mm jm, .int .i64 em] 34))
  replace Rm := Lib.hid (Rm.out.mono ((Below.refl _ w9).alloc (Nat.le_refl _) (.cells #[.int .i64 cm, .int .i64 lm, .slice bm Mm jm, .int .i64 em] 34)))
  replace Rd := Lib.hid (Rd.out.mono ((Below.refl _ w9).alloc (Nat.le_refl _) (.cells #[.int .i64 cm, .int .i64 lm, .slice bm Mm jm, .int .i64 em] 34)))
  replace Rr := Lib.hid (Rr.out.mono ((Below.refl _ w9).alloc (Nat.le_refl _) (.cells #[.int .i64 cm, .int .i64 lm, .slice bm Mm jm, .int .i64 em] 34)))
  replace Rf := Lib.hid (Rf.out.mono ((Below.refl _ w9).alloc (Nat.le_refl _) (.cells #[.int .i64 cm, .int .i64 lm, .slice bm Mm jm, .int .i64 em] 34)))
  replace Rmq := Lib.hid (Rmq.out.mono ((Below.refl _ w9).alloc (Nat.le_refl _) (.cells #[.int .i64 cm, .int .i64 lm, .slice bm Mm jm, .int .i64 em] 34)))
  have Lym := Lib.hid (show w.heap.size ≤ gym from by rw [← hgym]; exact B.out.size)
  replace B := Lib.hid (B.out.alloc B.out.size (.cells #[.int .i64 cm, .int .i64 lm, .slice bm Mm jm, .int .i64 em] 34))
  go_upto_region 8 with (fail)
  try rw [hgym]
  generalize hw : w9.alloc (.cells #[.int .i64 cm, .int .i64 lm, .slice bm Mm jm, .int .i64 em] 34) = w10 at Kb Kp Kxm Kxd Kxr Kxf Kym Rm Rd Rr Rf Rmq B ⊢
  clear bbc0 bbc1 bbc2 bpc0 bpc1 bxmc0 bxmc1 bxmc2 bxdc0 bxdc1 bxdc2 bxrc0 bxrc1 bxrc2 bxfc0 bxfc1 bxfc2
  clear hw hgym
  obtain ⟨bbc0, bbc1, bbc2⟩ := three Kb.out
  obtain ⟨bpc0, bpc1⟩ := twob Kp.out
  obtain ⟨bxmc0, bxmc1, bxmc2⟩ := three Kxm.out
  obtain ⟨bxdc0, bxdc1, bxdc2⟩ := three Kxd.out
  obtain ⟨bxrc0, bxrc1, bxrc2⟩ := three Kxr.out
  obtain ⟨bxfc0, bxfc1, bxfc2⟩ := three Kxf.out
  obtain ⟨bymc0, bymc1, bymc2, bymc3⟩ := four Kym.out
  go_wp2_with fail
  refine (Qd.out _ (HP.out.mono B.out)).mono ?_
  rintro e w11 ⟨⟨bd, jd, rfl, hr⟩, hb⟩
  have Rdq := Lib.hid hr
  replace Kb := Lib.hid (Kb.out.below hb Kb.out.lt)
  replace Kp := Lib.hid (Kp.out.below hb Kp.out.lt)
  replace Kxm := Lib.hid (Kxm.out.below hb Kxm.out.lt)
  replace Kxd := Lib.hid (Kxd.out.below hb Kxd.out.lt)
  replace Kxr := Lib.hid (Kxr.out.below hb Kxr.out.lt)
  replace Kxf := Lib.hid (Kxf.out.below hb Kxf.out.lt)
  replace Kym := Lib.hid (Kym.out.below hb Kym.out.lt)
  replace Rm := Lib.hid (Rm.out.mono hb)
  replace Rd := Lib.hid (Rd.out.mono hb)
  replace Rr := Lib.hid (Rr.out.mono hb)
  replace Rf := Lib.hid (Rf.out.mono hb)
  replace Rmq := Lib.hid (Rmq.out.mono hb)
  replace B := Lib.hid (B.out.trans (hb.mono B.out.size))
  clear bbc0 bbc1 bbc2 bpc0 bpc1 bxmc0 bxmc1 bxmc2 bxdc0 bxdc1 bxdc2 bxrc0 bxrc1 bxrc2 bxfc0 bxfc1 bxfc2 bymc0 bymc1 bymc2 bymc3
  clear hb hr
  obtain ⟨bbc0, bbc1, bbc2⟩ := three Kb.out
  obtain ⟨bpc0, bpc1⟩ := twob Kp.out
  obtain ⟨bxmc0, bxmc1, bxmc2⟩ := three Kxm.out
  obtain ⟨bxdc0, bxdc1, bxdc2⟩ := three Kxd.out
  obtain ⟨bxrc0, bxrc1, bxrc2⟩ := three Kxr.out
  obtain ⟨bxfc0, bxfc1, bxfc2⟩ := three Kxf.out
  obtain ⟨bymc0, bymc1, bymc2, bymc3⟩ := four Kym.out
  obtain ⟨gyd, hgyd⟩ : ∃ G, w11.heap.size = G := ⟨_, rfl⟩
  have Kyd := Lib.hid (show Blk (w11.alloc (.cells #[.int .i64 cd, .int .i64 ld, .slice bd Md jd, .int .i64 ed] 34)) gyd 34 #[.int .i64 cd, .int .i64 ld, .slice bd Md jd, .int .i64 ed] from Blk.new' w11 _ _ _ hgyd rfl)
  have Nbyd := Lib.hid (show G < gyd from by rw [← hgyd]; exact Kb.out.lt)
  replace Kb := Lib.hid (Kb.out.alloc (.cells #[.int .i64 cd, .int .i64 ld, .slice bd Md jd, .int .i64 ed] 34))
  have Npyd := Lib.hid (show G + 1 < gyd from by rw [← hgyd]; exact Kp.out.lt)
  replace Kp := Lib.hid (Kp.out.alloc (.cells #[.int .i64 cd, .int .i64 ld, .slice bd Md jd, .int .i64 ed] 34))
  have Nxmyd := Lib.hid (show gxm < gyd from by rw [← hgyd]; exact Kxm.out.lt)
  replace Kxm := Lib.hid (Kxm.out.alloc (.cells #[.int .i64 cd, .int .i64 ld, .slice bd Md jd, .int .i64 ed] 34))
  have Nxdyd := Lib.hid (show gxd < gyd from by rw [← hgyd]; exact Kxd.out.lt)
  replace Kxd := Lib.hid (Kxd.out.alloc (.cells #[.int .i64 cd, .int .i64 ld, .slice bd Md jd, .int .i64 ed] 34))
  have Nxryd := Lib.hid (show gxr < gyd from by rw [← hgyd]; exact Kxr.out.lt)
  replace Kxr := Lib.hid (Kxr.out.alloc (.cells #[.int .i64 cd, .int .i64 ld, .slice bd Md jd, .int .i64 ed] 34))
  have Nxfyd := Lib.hid (show gxf < gyd from by rw [← hgyd]; exact Kxf.out.lt)
  replace Kxf := Lib.hid (Kxf.out.alloc (.cells #[.int .i64 cd, .int .i64 ld, .slice bd Md jd, .int .i64 ed] 34))
  have Nymyd := Lib.hid (show gym < gyd from by rw [← hgyd]; exact Kym.out.lt)
  replace Kym := Lib.hid (Kym.out.alloc (.cells #[.int .i64 cd, .int .i64 ld, .slice bd Md jd, .int .i64 ed] 34))
  replace Rm := Lib.hid (Rm.out.mono ((Below.refl _ w11).alloc (Nat.le_refl _) (.cells #[.int .i64 cd, .int .i64 ld, .slice bd Md jd, .int .i64 ed] 34)))
  replace Rd := Lib.hid (Rd.out.mono ((Below.refl _ w11).alloc (Nat.le_refl _) (.cells #[.int .i64 cd, .int .i64 ld, .slice bd Md jd, .int .i64 ed] 34)))
  replace Rr := Lib.hid (Rr.out.mono ((Below.refl _ w11).alloc (Nat.le_refl _) (.cells #[.int .i64 cd, .int .i64 ld, .slice bd Md jd, .int .i64 ed] 34)))
  replace Rf := Lib.hid (Rf.out.mono ((Below.refl _ w11).alloc (Nat.le_refl _) (.cells #[.int .i64 cd, .int .i64 ld, .slice bd Md jd, .int .i64 ed] 34)))
  replace Rmq := Lib.hid (Rmq.out.mono ((Below.refl _ w11).alloc (Nat.le_refl _) (.cells #[.int .i64 cd, .int .i64 ld, .slice bd Md jd, .int .i64 ed] 34)))
  replace Rdq := Lib.hid (Rdq.out.mono ((Below.refl _ w11).alloc (Nat.le_refl _) (.cells #[.int .i64 cd, .int .i64 ld, .slice bd Md jd, .int .i64 ed] 34)))
  have Lyd := Lib.hid (show w.heap.size ≤ gyd from by rw [← hgyd]; exact B.out.size)
  replace B := Lib.hid (B.out.alloc B.out.size (.cells #[.int .i64 cd, .int .i64 ld, .slice bd Md jd, .int .i64 ed] 34))
  go_upto_region 9 with (fail)
  try rw [hgyd]
  generalize hw : w11.alloc (.cells #[.int .i64 cd, .int .i64 ld, .slice bd Md jd, .int .i64 ed] 34) = w12 at Kb Kp Kxm Kxd Kxr Kxf Kym Kyd Rm Rd Rr Rf Rmq Rdq B ⊢
  clear bbc0 bbc1 bbc2 bpc0 bpc1 bxmc0 bxmc1 bxmc2 bxdc0 bxdc1 bxdc2 bxrc0 bxrc1 bxrc2 bxfc0 bxfc1 bxfc2 bymc0 bymc1 bymc2 bymc3
  clear hw hgyd
  obtain ⟨bbc0, bbc1, bbc2⟩ := three Kb.out
  obtain ⟨bpc0, bpc1⟩ := twob Kp.out
  obtain ⟨bxmc0, bxmc1, bxmc2⟩ := three Kxm.out
  obtain ⟨bxdc0, bxdc1, bxdc2⟩ := three Kxd.out
  obtain ⟨bxrc0, bxrc1, bxrc2⟩ := three Kxr.out
  obtain ⟨bxfc0, bxfc1, bxfc2⟩ := three Kxf.out
  obtain ⟨bymc0, bymc1, bymc2, bymc3⟩ := four Kym.out
  obtain ⟨bydc0, bydc1, bydc2, bydc3⟩ := four Kyd.out
  go_wp2_with fail
  refine (Qr.out _ (HP.out.mono B.out)).mono ?_
  rintro e w13 ⟨⟨br, jr, rfl, hr⟩, hb⟩
  have Rrq := Lib.hid hr
  replace Kb := Lib.hid (Kb.out.below hb Kb.out.lt)
  replace Kp := Lib.hid (Kp.out.below hb Kp.out.lt)
  replace Kxm := Lib.hid (Kxm.out.below hb Kxm.out.lt)
  replace Kxd := Lib.hid (Kxd.out.below hb Kxd.out.lt)
  replace Kxr := Lib.hid (Kxr.out.below hb Kxr.out.lt)
  replace Kxf := Lib.hid (Kxf.out.below hb Kxf.out.lt)
  replace Kym := Lib.hid (Kym.out.below hb Kym.out.lt)
  replace Kyd := Lib.hid (Kyd.out.below hb Kyd.out.lt)
  replace Rm := Lib.hid (Rm.out.mono hb)
  replace Rd := Lib.hid (Rd.out.mono hb)
  replace Rr := Lib.hid (Rr.out.mono hb)
  replace Rf := Lib.hid (Rf.out.mono hb)
  replace Rmq := Lib.hid (Rmq.out.mono hb)
  replace Rdq := Lib.hid (Rdq.out.mono hb)
  replace B := Lib.hid (B.out.trans (hb.mono B.out.size))
  clear bbc0 bbc1 bbc2 bpc0 bpc1 bxmc0 bxmc1 bxmc2 bxdc0 bxdc1 bxdc2 bxrc0 bxrc1 bxrc2 bxfc0 bxfc1 bxfc2 bymc0 bymc1 bymc2 bymc3 bydc0 bydc1 bydc2 bydc3
  clear hb hr
  obtain ⟨bbc0, bbc1, bbc2⟩ := three Kb.out
  obtain ⟨bpc0, bpc1⟩ := twob Kp.out
  obtain ⟨bxmc0, bxmc1, bxmc2⟩ := three Kxm.out
  obtain ⟨bxdc0, bxdc1, bxdc2⟩ := three Kxd.out
  obtain ⟨bxrc0, bxrc1, bxrc2⟩ := three Kxr.out
  obtain ⟨bxfc0, bxfc1, bxfc2⟩ := three Kxf.out
  obtain ⟨bymc0, bymc1, bymc2, bymc3⟩ := four Kym.out
  obtain ⟨bydc0, bydc1, bydc2, bydc3⟩ := four Kyd.out
  obtain ⟨gyr, hgyr⟩ : ∃ G, w13.heap.size = G := ⟨_, rfl⟩
  have Kyr := Lib.hid (show Blk (w13.alloc (.cells #[.int .i64 cr, .int .i64 lr, .slice br Mr jr, .int .i64 er] 34)) gyr 34 #[.int .i64 cr, .int .i64 lr, .slice br Mr jr, .int .i64 er] from Blk.new' w13 _ _ _ hgyr rfl)
  have Nbyr := Lib.hid (show G < gyr from by rw [← hgyr]; exact Kb.out.lt)
  replace Kb := Lib.hid (Kb.out.alloc (.cells #[.int .i64 cr, .int .i64 lr, .slice br Mr jr, .int .i64 er] 34))
  have Npyr := Lib.hid (show G + 1 < gyr from by rw [← hgyr]; exact Kp.out.lt)
  replace Kp := Lib.hid (Kp.out.alloc (.cells #[.int .i64 cr, .int .i64 lr, .slice br Mr jr, .int .i64 er] 34))
  have Nxmyr := Lib.hid (show gxm < gyr from by rw [← hgyr]; exact Kxm.out.lt)
  replace Kxm := Lib.hid (Kxm.out.alloc (.cells #[.int .i64 cr, .int .i64 lr, .slice br Mr jr, .int .i64 er] 34))
  have Nxdyr := Lib.hid (show gxd < gyr from by rw [← hgyr]; exact Kxd.out.lt)
  replace Kxd := Lib.hid (Kxd.out.alloc (.cells #[.int .i64 cr, .int .i64 lr, .slice br Mr jr, .int .i64 er] 34))
  have Nxryr := Lib.hid (show gxr < gyr from by rw [← hgyr]; exact Kxr.out.lt)
  replace Kxr := Lib.hid (Kxr.out.alloc (.cells #[.int .i64 cr, .int .i64 lr, .slice br Mr jr, .int .i64 er] 34))
  have Nxfyr := Lib.hid (show gxf < gyr from by rw [← hgyr]; exact Kxf.out.lt)
  replace Kxf := Lib.hid (Kxf.out.alloc (.cells #[.int .i64 cr, .int .i64 lr, .slice br Mr jr, .int .i64 er] 34))
  have Nymyr := Lib.hid (show gym < gyr from by rw [← hgyr]; exact Kym.out.lt)
  replace Kym := Lib.hid (Kym.out.alloc (.cells #[.int .i64 cr, .int .i64 lr, .slice br Mr jr, .int .i64 er] 34))
  have Nydyr := Lib.hid (show gyd < gyr from by rw [← hgyr]; exact Kyd.out.lt)
  replace Kyd := Lib.hid (Kyd.out.alloc (.cells #[.int .i64 cr, .int .i64 lr, .slice br Mr jr, .int .i64 er] 34))
  replace Rm := Lib.hid (Rm.out.mono ((Below.refl _ w13).alloc (Nat.le_refl _) (.cells #[.int .i64 cr, .int .i64 lr, .slice br Mr jr, .int .i64 er] 34)))
  replace Rd := Lib.hid (Rd.out.mono ((Below.refl _ w13).alloc (Nat.le_refl _) (.cells #[.int .i64 cr, .int .i64 lr, .slice br Mr jr, .int .i64 er] 34)))
  replace Rr := Lib.hid (Rr.out.mono ((Below.refl _ w13).alloc (Nat.le_refl _) (.cells #[.int .i64 cr, .int .i64 lr, .slice br Mr jr, .int .i64 er] 34)))
  replace Rf := Lib.hid (Rf.out.mono ((Below.refl _ w13).alloc (Nat.le_refl _) (.cells #[.int .i64 cr, .int .i64 lr, .slice br Mr jr, .int .i64 er] 34)))
  replace Rmq := Lib.hid (Rmq.out.mono ((Below.refl _ w13).alloc (Nat.le_refl _) (.cells #[.int .i64 cr, .int .i64 lr, .slice br Mr jr, .int .i64 er] 34)))
  replace Rdq := Lib.hid (Rdq.out.mono ((Below.refl _ w13).alloc (Nat.le_refl _) (.cells #[.int .i64 cr, .int .i64 lr, .slice br Mr jr, .int .i64 er] 34)))
  replace Rrq := Lib.hid (Rrq.out.mono ((Below.refl _ w13).alloc (Nat.le_refl _) (.cells #[.int .i64 cr, .int .i64 lr, .slice br Mr jr, .int .i64 er] 34)))
  have Lyr := Lib.hid (show w.heap.size ≤ gyr from by rw [← hgyr]; exact B.out.size)
  replace B := Lib.hid (B.out.alloc B.out.size (.cells #[.int .i64 cr, .int .i64 lr, .slice br Mr jr, .int .i64 er] 34))
  go_upto_region 10 with (fail)
  try rw [hgyr]
  generalize hw : w13.alloc (.cells #[.int .i64 cr, .int .i64 lr, .slice br Mr jr, .int .i64 er] 34) = w14 at Kb Kp Kxm Kxd Kxr Kxf Kym Kyd Kyr Rm Rd Rr Rf Rmq Rdq Rrq B ⊢
  clear bbc0 bbc1 bbc2 bpc0 bpc1 bxmc0 bxmc1 bxmc2 bxdc0 bxdc1 bxdc2 bxrc0 bxrc1 bxrc2 bxfc0 bxfc1 bxfc2 bymc0 bymc1 bymc2 bymc3 bydc0 bydc1 bydc2 bydc3
  clear hw hgyr
  obtain ⟨bbc0, bbc1, bbc2⟩ := three Kb.out
  obtain ⟨bpc0, bpc1⟩ := twob Kp.out
  obtain ⟨bxmc0, bxmc1, bxmc2⟩ := three Kxm.out
  obtain ⟨bxdc0, bxdc1, bxdc2⟩ := three Kxd.out
  obtain ⟨bxrc0, bxrc1, bxrc2⟩ := three Kxr.out
  obtain ⟨bxfc0, bxfc1, bxfc2⟩ := three Kxf.out
  obtain ⟨bymc0, bymc1, bymc2, bymc3⟩ := four Kym.out
  obtain ⟨bydc0, bydc1, bydc2, bydc3⟩ := four Kyd.out
  obtain ⟨byrc0, byrc1, byrc2, byrc3⟩ := four Kyr.out
  go_wp2_with fail
  refine (Qf.out _ (HP.out.mono B.out)).mono ?_
  rintro e w15 ⟨⟨bf, jf, rfl, hr⟩, hb⟩
  have Rfq := Lib.hid hr
  replace Kb := Lib.hid (Kb.out.below hb Kb.out.lt)
  replace Kp := Lib.hid (Kp.out.below hb Kp.out.lt)
  replace Kxm := Lib.hid (Kxm.out.below hb Kxm.out.lt)
  replace Kxd := Lib.hid (Kxd.out.below hb Kxd.out.lt)
  replace Kxr := Lib.hid (Kxr.out.below hb Kxr.out.lt)
  replace Kxf := Lib.hid (Kxf.out.below hb Kxf.out.lt)
  replace Kym := Lib.hid (Kym.out.below hb Kym.out.lt)
  replace Kyd := Lib.hid (Kyd.out.below hb Kyd.out.lt)
  replace Kyr := Lib.hid (Kyr.out.below hb Kyr.out.lt)
  replace Rm := Lib.hid (Rm.out.mono hb)
  replace Rd := Lib.hid (Rd.out.mono hb)
  replace Rr := Lib.hid (Rr.out.mono hb)
  replace Rf := Lib.hid (Rf.out.mono hb)
  replace Rmq := Lib.hid (Rmq.out.mono hb)
  replace Rdq := Lib.hid (Rdq.out.mono hb)
  replace Rrq := Lib.hid (Rrq.out.mono hb)
  replace B := Lib.hid (B.out.trans (hb.mono B.out.size))
  clear bbc0 bbc1 bbc2 bpc0 bpc1 bxmc0 bxmc1 bxmc2 bxdc0 bxdc1 bxdc2 bxrc0 bxrc1 bxrc2 bxfc0 bxfc1 bxfc2 bymc0 bymc1 bymc2 bymc3 bydc0 bydc1 bydc2 bydc3 byrc0 byrc1 byrc2 byrc3
  clear hb hr
  obtain ⟨bbc0, bbc1, bbc2⟩ := three Kb.out
  obtain ⟨bpc0, bpc1⟩ := twob Kp.out
  obtain ⟨bxmc0, bxmc1, bxmc2⟩ := three Kxm.out
  obtain ⟨bxdc0, bxdc1, bxdc2⟩ := three Kxd.out
  obtain ⟨bxrc0, bxrc1, bxrc2⟩ := three Kxr.out
  obtain ⟨bxfc0, bxfc1, bxfc2⟩ := three Kxf.out
  obtain ⟨bymc0, bymc1, bymc2, bymc3⟩ := four Kym.out
  obtain ⟨bydc0, bydc1, bydc2, bydc3⟩ := four Kyd.out
  obtain ⟨byrc0, byrc1, byrc2, byrc3⟩ := four Kyr.out
  obtain ⟨gyf, hgyf⟩ : ∃ G, w15.heap.size = G := ⟨_, rfl⟩
  have Kyf := Lib.hid (show Blk (w15.alloc (.cells #[.int .i64 cf, .int .i64 lf, .slice bf Mf jf, .int .i64 ef] 34)) gyf 34 #[.int .i64 cf, .int .i64 lf, .slice bf Mf jf, .int .i64 ef] from Blk.new' w15 _ _ _ hgyf rfl)
  have Nbyf := Lib.hid (show G < gyf from by rw [← hgyf]; exact Kb.out.lt)
  replace Kb := Lib.hid (Kb.out.alloc (.cells #[.int .i64 cf, .int .i64 lf, .slice bf Mf jf, .int .i64 ef] 34))
  have Npyf := Lib.hid (show G + 1 < gyf from by rw [← hgyf]; exact Kp.out.lt)
  replace Kp := Lib.hid (Kp.out.alloc (.cells #[.int .i64 cf, .int .i64 lf, .slice bf Mf jf, .int .i64 ef] 34))
  have Nxmyf := Lib.hid (show gxm < gyf from by rw [← hgyf]; exact Kxm.out.lt)
  replace Kxm := Lib.hid (Kxm.out.alloc (.cells #[.int .i64 cf, .int .i64 lf, .slice bf Mf jf, .int .i64 ef] 34))
  have Nxdyf := Lib.hid (show gxd < gyf from by rw [← hgyf]; exact Kxd.out.lt)
  replace Kxd := Lib.hid (Kxd.out.alloc (.cells #[.int .i64 cf, .int .i64 lf, .slice bf Mf jf, .int .i64 ef] 34))
  have Nxryf := Lib.hid (show gxr < gyf from by rw [← hgyf]; exact Kxr.out.lt)
  replace Kxr := Lib.hid (Kxr.out.alloc (.cells #[.int .i64 cf, .int .i64 lf, .slice bf Mf jf, .int .i64 ef] 34))
  have Nxfyf := Lib.hid (show gxf < gyf from by rw [← hgyf]; exact Kxf.out.lt)
  replace Kxf := Lib.hid (Kxf.out.alloc (.cells #[.int .i64 cf, .int .i64 lf, .slice bf Mf jf, .int .i64 ef] 34))
  have Nymyf := Lib.hid (show gym < gyf from by rw [← hgyf]; exact Kym.out.lt)
  replace Kym := Lib.hid (Kym.out.alloc (.cells #[.int .i64 cf, .int .i64 lf, .slice bf Mf jf, .int .i64 ef] 34))
  have Nydyf := Lib.hid (show gyd < gyf from by rw [← hgyf]; exact Kyd.out.lt)
  replace Kyd := Lib.hid (Kyd.out.alloc (.cells #[.int .i64 cf, .int .i64 lf, .slice bf Mf jf, .int .i64 ef] 34))
  have Nyryf := Lib.hid (show gyr < gyf from by rw [← hgyf]; exact Kyr.out.lt)
  replace Kyr := Lib.hid (Kyr.out.alloc (.cells #[.int .i64 cf, .int .i64 lf, .slice bf Mf jf, .int .i64 ef] 34))
  replace Rm := Lib.hid (Rm.out.mono ((Below.refl _ w15).alloc (Nat.le_refl _) (.cells #[.int .i64 cf, .int .i64 lf, .slice bf Mf jf, .int .i64 ef] 34)))
  replace Rd := Lib.hid (Rd.out.mono ((Below.refl _ w15).alloc (Nat.le_refl _) (.cells #[.int .i64 cf, .int .i64 lf, .slice bf Mf jf, .int .i64 ef] 34)))
  replace Rr := Lib.hid (Rr.out.mono ((Below.refl _ w15).alloc (Nat.le_refl _) (.cells #[.int .i64 cf, .int .i64 lf, .slice bf Mf jf, .int .i64 ef] 34)))
  replace Rf := Lib.hid (Rf.out.mono ((Below.refl _ w15).alloc (Nat.le_refl _) (.cells #[.int .i64 cf, .int .i64 lf, .slice bf Mf jf, .int .i64 ef] 34)))
  replace Rmq := Lib.hid (Rmq.out.mono ((Below.refl _ w15).alloc (Nat.le_refl _) (.cells #[.int .i64 cf, .int .i64 lf, .slice bf Mf jf, .int .i64 ef] 34)))
  replace Rdq := Lib.hid (Rdq.out.mono ((Below.refl _ w15).alloc (Nat.le_refl _) (.cells #[.int .i64 cf, .int .i64 lf, .slice bf Mf jf, .int .i64 ef] 34)))
  replace Rrq := Lib.hid (Rrq.out.mono ((Below.refl _ w15).alloc (Nat.le_refl _) (.cells #[.int .i64 cf, .int .i64 lf, .slice bf Mf jf, .int .i64 ef] 34)))
  replace Rfq := Lib.hid (Rfq.out.mono ((Below.refl _ w15).alloc (Nat.le_refl _) (.cells #[.int .i64 cf, .int .i64 lf, .slice bf Mf jf, .int .i64 ef] 34)))
  have Lyf := Lib.hid (show w.heap.size ≤ gyf from by rw [← hgyf]; exact B.out.size)
  replace B := Lib.hid (B.out.alloc B.out.size (.cells #[.int .i64 cf, .int .i64 lf, .slice bf Mf jf, .int .i64 ef] 34))
  go_upto_region 11 with (fail)
  try rw [hgyf]
  generalize hw : w15.alloc (.cells #[.int .i64 cf, .int .i64 lf, .slice bf Mf jf, .int .i64 ef] 34) = w16 at Kb Kp Kxm Kxd Kxr Kxf Kym Kyd Kyr Kyf Rm Rd Rr Rf Rmq Rdq Rrq Rfq B ⊢
  clear bbc0 bbc1 bbc2 bpc0 bpc1 bxmc0 bxmc1 bxmc2 bxdc0 bxdc1 bxdc2 bxrc0 bxrc1 bxrc2 bxfc0 bxfc1 bxfc2 bymc0 bymc1 bymc2 bymc3 bydc0 bydc1 bydc2 bydc3 byrc0 byrc1 byrc2 byrc3
  clear hw hgyf
  obtain ⟨bbc0, bbc1, bbc2⟩ := three Kb.out
  obtain ⟨bpc0, bpc1⟩ := twob Kp.out
  obtain ⟨bxmc0, bxmc1, bxmc2⟩ := three Kxm.out
  obtain ⟨bxdc0, bxdc1, bxdc2⟩ := three Kxd.out
  obtain ⟨bxrc0, bxrc1, bxrc2⟩ := three Kxr.out
  obtain ⟨bxfc0, bxfc1, bxfc2⟩ := three Kxf.out
  obtain ⟨bymc0, bymc1, bymc2, bymc3⟩ := four Kym.out
  obtain ⟨bydc0, bydc1, bydc2, bydc3⟩ := four Kyd.out
  obtain ⟨byrc0, byrc1, byrc2, byrc3⟩ := four Kyr.out
  obtain ⟨byfc0, byfc1, byfc2, byfc3⟩ := four Kyf.out
  clear bbc0 bbc1 bbc2 bpc0 bpc1 bxmc0 bxmc1 bxmc2 bxdc0 bxdc1 bxdc2 bxrc0 bxrc1 bxrc2 bxfc0 bxfc1 bxfc2 bymc0 bymc1 bymc2 bymc3 bydc0 bydc1 bydc2 bydc3 byrc0 byrc1 byrc2 byrc3 byfc0 byfc1 byfc2 byfc3
  have HP2 := Lib.hid (HP.out.mono B.out)
  have ZPV := Lib.hid (fun (d : Nat) (os : Array Obj) => PV.out (grow (redrawn w16 d) os) (HP2.out.mono (below_regrown _ _ _)))
  have ZQV := Lib.hid (fun (d : Nat) (os : Array Obj) => QV.out (grow (redrawn w16 d) os) (HP2.out.mono (below_regrown _ _ _)))
  have ZSm := Lib.hid (fun (d : Nat) (os : Array Obj) => Sm.out am bm km jm (grow (redrawn w16 d) os) (Rm.out.mono (below_regrown _ _ _)) (Rmq.out.mono (below_regrown _ _ _)))
  have ZSd := Lib.hid (fun (d : Nat) (os : Array Obj) => Sd.out ad bd kd jd (grow (redrawn w16 d) os) (Rd.out.mono (below_regrown _ _ _)) (Rdq.out.mono (below_regrown _ _ _)))
  have ZSr := Lib.hid (fun (d : Nat) (os : Array Obj) => Sr.out ar br kr jr (grow (redrawn w16 d) os) (Rr.out.mono (below_regrown _ _ _)) (Rrq.out.mono (below_regrown _ _ _)))
  obtain ⟨bbc0, bbc1, bbc2⟩ := three Kb.out
  obtain ⟨bpc0, bpc1⟩ := twob Kp.out
  obtain ⟨bxmc0, bxmc1, bxmc2⟩ := three Kxm.out
  obtain ⟨bxdc0, bxdc1, bxdc2⟩ := three Kxd.out
  obtain ⟨bxrc0, bxrc1, bxrc2⟩ := three Kxr.out
  obtain ⟨bxfc0, bxfc1, bxfc2⟩ := three Kxf.out
  obtain ⟨bymc0, bymc1, bymc2, bymc3⟩ := four Kym.out
  obtain ⟨bydc0, bydc1, bydc2, bydc3⟩ := four Kyd.out
  obtain ⟨byrc0, byrc1, byrc2, byrc3⟩ := four Kyr.out
  obtain ⟨byfc0, byfc1, byfc2, byfc3⟩ := four Kyf.out
  have gc := grow_cell3
  have zzb := Kb.out.lt
  have zzp := Kp.out.lt
  have zzxm := Kxm.out.lt
  have zzxd := Kxd.out.lt
  have zzxr := Kxr.out.lt
  have zzxf := Kxf.out.lt
  have zzym := Kym.out.lt
  have zzyd := Kyd.out.lt
  have zzyr := Kyr.out.lt
  have zzyf := Kyf.out.lt
  go_wp2_with fail
  refine wp_region_quiet_below (by kernel_rfl) (by kernel_rfl) ?_
  repeat (go_big_quiet_step (first | (with_reducible exact Calls.regrown_of (ZPV.out _ _)) | (with_reducible exact Calls.regrown_of (ZQV.out _ _)) | (with_reducible exact Calls.regrown_of (ZSm.out _ _)) | (with_reducible exact Calls.regrown_of (ZSd.out _ _)) | (with_reducible exact Calls.regrown_of (ZSr.out _ _))))
  refine wpQuiet_nil ?_
  intro w17 hw'
  obtain ⟨⟨dq, osq⟩, hw''⟩ := hw'
  have hb := below_of_grow3 hw''
  clear hw'' gc zzb zzp zzxm zzxd zzxr zzxf zzym zzyd zzyr zzyf
  replace Kb := Lib.hid (Kb.out.below hb Kb.out.lt)
  replace Kp := Lib.hid (Kp.out.below hb Kp.out.lt)
  replace Kxm := Lib.hid (Kxm.out.below hb Kxm.out.lt)
  replace Kxd := Lib.hid (Kxd.out.below hb Kxd.out.lt)
  replace Kxr := Lib.hid (Kxr.out.below hb Kxr.out.lt)
  replace Kxf := Lib.hid (Kxf.out.below hb Kxf.out.lt)
  replace Kym := Lib.hid (Kym.out.below hb Kym.out.lt)
  replace Kyd := Lib.hid (Kyd.out.below hb Kyd.out.lt)
  replace Kyr := Lib.hid (Kyr.out.below hb Kyr.out.lt)
  replace Kyf := Lib.hid (Kyf.out.below hb Kyf.out.lt)
  replace Rm := Lib.hid (Rm.out.mono hb)
  replace Rd := Lib.hid (Rd.out.mono hb)
  replace Rr := Lib.hid (Rr.out.mono hb)
  replace Rf := Lib.hid (Rf.out.mono hb)
  replace Rmq := Lib.hid (Rmq.out.mono hb)
  replace Rdq := Lib.hid (Rdq.out.mono hb)
  replace Rrq := Lib.hid (Rrq.out.mono hb)
  replace Rfq := Lib.hid (Rfq.out.mono hb)
  replace B := Lib.hid (B.out.trans (hb.mono B.out.size))
  clear hb
  clear bbc0 bbc1 bbc2 bpc0 bpc1 bxmc0 bxmc1 bxmc2 bxdc0 bxdc1 bxdc2 bxrc0 bxrc1 bxrc2 bxfc0 bxfc1 bxfc2 bymc0 bymc1 bymc2 bymc3 bydc0 bydc1 bydc2 bydc3 byrc0 byrc1 byrc2 byrc3 byfc0 byfc1 byfc2 byfc3
  clear HP2 ZPV ZQV ZSm ZSd ZSr
  have HP2 := Lib.hid (HP.out.mono B.out)
  have QN := Lib.hid (fun (d : Nat) (os : Array Obj) => SN.out (grow (redrawn w17 d) os))
  have ZPDT := Lib.hid (fun (d : Nat) (os : Array Obj) => PDT.out (grow (redrawn w17 d) os) (HP2.out.mono (below_regrown _ _ _)))
  have ZQDT := Lib.hid (fun (d : Nat) (os : Array Obj) => QDT.out (grow (redrawn w17 d) os) (HP2.out.mono (below_regrown _ _ _)))
  have ZPOT := Lib.hid (fun (d : Nat) (os : Array Obj) => POT.out (grow (redrawn w17 d) os) (HP2.out.mono (below_regrown _ _ _)))
  have ZQOT := Lib.hid (fun (d : Nat) (os : Array Obj) => QOT.out (grow (redrawn w17 d) os) (HP2.out.mono (below_regrown _ _ _)))
  have ZSf := Lib.hid (fun (d : Nat) (os : Array Obj) => Sf.out af bf kf jf (grow (redrawn w17 d) os) (Rf.out.mono (below_regrown _ _ _)) (Rfq.out.mono (below_regrown _ _ _)))
  obtain ⟨bbc0, bbc1, bbc2⟩ := three Kb.out
  obtain ⟨bpc0, bpc1⟩ := twob Kp.out
  obtain ⟨bxmc0, bxmc1, bxmc2⟩ := three Kxm.out
  obtain ⟨bxdc0, bxdc1, bxdc2⟩ := three Kxd.out
  obtain ⟨bxrc0, bxrc1, bxrc2⟩ := three Kxr.out
  obtain ⟨bxfc0, bxfc1, bxfc2⟩ := three Kxf.out
  obtain ⟨bymc0, bymc1, bymc2, bymc3⟩ := four Kym.out
  obtain ⟨bydc0, bydc1, bydc2, bydc3⟩ := four Kyd.out
  obtain ⟨byrc0, byrc1, byrc2, byrc3⟩ := four Kyr.out
  obtain ⟨byfc0, byfc1, byfc2, byfc3⟩ := four Kyf.out
  have gc := grow_cell3
  have zzb := Kb.out.lt
  have zzp := Kp.out.lt
  have zzxm := Kxm.out.lt
  have zzxd := Kxd.out.lt
  have zzxr := Kxr.out.lt
  have zzxf := Kxf.out.lt
  have zzym := Kym.out.lt
  have zzyd := Kyd.out.lt
  have zzyr := Kyr.out.lt
  have zzyf := Kyf.out.lt
  go_wp2_with fail
  refine wp_region_quiet_below (by kernel_rfl) (by kernel_rfl) ?_
  repeat (go_big_quiet_step (first | (with_reducible exact Calls.regrown_of (QN.out _ _)) | (with_reducible exact Calls.regrown_of (ZPDT.out _ _)) | (with_reducible exact Calls.regrown_of (ZQDT.out _ _)) | (with_reducible exact Calls.regrown_of (ZPOT.out _ _)) | (with_reducible exact Calls.regrown_of (ZQOT.out _ _)) | (with_reducible exact Calls.regrown_of (ZSf.out _ _))))
  refine wpQuiet_nil ?_
  intro w18 hw'
  obtain ⟨⟨dq, osq⟩, hw''⟩ := hw'
  have hb := below_of_grow3 hw''
  clear hw'' gc zzb zzp zzxm zzxd zzxr zzxf zzym zzyd zzyr zzyf
  replace Kb := Lib.hid (Kb.out.below hb Kb.out.lt)
  replace Kp := Lib.hid (Kp.out.below hb Kp.out.lt)
  replace Kxm := Lib.hid (Kxm.out.below hb Kxm.out.lt)
  replace Kxd := Lib.hid (Kxd.out.below hb Kxd.out.lt)
  replace Kxr := Lib.hid (Kxr.out.below hb Kxr.out.lt)
  replace Kxf := Lib.hid (Kxf.out.below hb Kxf.out.lt)
  replace Kym := Lib.hid (Kym.out.below hb Kym.out.lt)
  replace Kyd := Lib.hid (Kyd.out.below hb Kyd.out.lt)
  replace Kyr := Lib.hid (Kyr.out.below hb Kyr.out.lt)
  replace Kyf := Lib.hid (Kyf.out.below hb Kyf.out.lt)
  replace Rm := Lib.hid (Rm.out.mono hb)
  replace Rd := Lib.hid (Rd.out.mono hb)
  replace Rr := Lib.hid (Rr.out.mono hb)
  replace Rf := Lib.hid (Rf.out.mono hb)
  replace Rmq := Lib.hid (Rmq.out.mono hb)
  replace Rdq := Lib.hid (Rdq.out.mono hb)
  replace Rrq := Lib.hid (Rrq.out.mono hb)
  replace Rfq := Lib.hid (Rfq.out.mono hb)
  replace B := Lib.hid (B.out.trans (hb.mono B.out.size))
  clear hb
  clear bbc0 bbc1 bbc2 bpc0 bpc1 bxmc0 bxmc1 bxmc2 bxdc0 bxdc1 bxdc2 bxrc0 bxrc1 bxrc2 bxfc0 bxfc1 bxfc2 bymc0 bymc1 bymc2 bymc3 bydc0 bydc1 bydc2 bydc3 byrc0 byrc1 byrc2 byrc3 byfc0 byfc1 byfc2 byfc3
  go_wp2
  go_ret
  exact ⟨rfl, B.out⟩
theorem law3 (cap len : Int) (a : Option Addr) (c : Nat) (l : List Rw) (wi ga n : Int) (lo hi : Int) (w : World) (hp : RwA w a l) : Calls Try.prog 3 #[.agg #[.int .i64 cap, .int .i64 len, .slice a l.length c], .int .i64 wi, .int .i64 ga, .int .i64 n, per lo hi] w fun e w' => e = .returned (.bool true) ∧ Below w.heap.size w w' := by
  by_cases hl : l.length ≤ 10001
  · by_cases h : 40 < l.length
    · by_cases h2 : l.length < 10000
      · exact law3_some cap len a c l wi ga n lo hi w hp h h2
      · exact law3_full cap len a c l wi ga n lo hi w hp hl h h2
    · exact law3_few cap len a c l wi ga n lo hi w hp hl h
  · exact law3_many cap len a c l wi ga n lo hi w hp (by omega)
end
end Go.Proofs.Ytcgdhankllphgaa
