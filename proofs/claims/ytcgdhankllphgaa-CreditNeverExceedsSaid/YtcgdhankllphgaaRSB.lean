import Derived.Test.YtcgdhankllphgaaRG2
import Derived.Deep.Cut
namespace Go.Proofs.Ytcgdhankllphgaa
set_option linter.unusedVariables false
set_option linter.unusedSimpArgs false
set_option linter.unusedSectionVars false
open Go.RowKit
set_option maxRecDepth 100000 in
set_option maxHeartbeats 8000000 in
theorem sanity_any (w : World) : Calls Try.prog 8 #[] w fun e w' => e = .returned (.bool true) ∧ Below w.heap.size w w' := by
  go_enter Try.func8, Try.ntmps8
  have B := Lib.hid (Below.refl w.heap.size w)
  go_wp2_with fail
  refine (sa_nb w).mono ?_
  rintro e w1 ⟨rfl, hb⟩
  replace B := Lib.hid (B.out.trans (hb.mono B.out.size))
  clear hb
  have B0 := Lib.hid B.out.size
  obtain ⟨g1, hg1⟩ : ∃ G, w1.heap.size = G := ⟨_, rfl⟩
  have K1 := Lib.hid (show Blk (w1.alloc (.cells #[.int .i64 10, .int .i64 1000, .slice none 0 0] 24)) g1 24 #[.int .i64 10, .int .i64 1000, .slice none 0 0] from Blk.new' w1 _ _ _ hg1 rfl)
  replace B := Lib.hid (B.out.alloc B.out.size (.cells #[.int .i64 10, .int .i64 1000, .slice none 0 0] 24))
  have S1 := Lib.hid hg1
  go_upto_region 2 with (fail)
  try rw [hg1]
  generalize hw : w1.alloc (.cells #[.int .i64 10, .int .i64 1000, .slice none 0 0] 24) = w2 at K1  B ⊢
  clear hw hg1
  have L1 := Lib.hid (show w.heap.size ≤ g1 from by rw [← S1.out]; exact B0.out)
  clear B0
  obtain ⟨b1c0, b1c1, b1c2⟩ := three K1.out
  have Q := Lib.hid K1.out.lt
  go_wp2_with fail
  refine (sa_d1 none 0 w2 (RowsA.nil _ _ _ _)).mono ?_
  rintro e w3 ⟨⟨ax, cx, rfl, hr, hf⟩, hb⟩
  replace K1 := Lib.hid (K1.out.below hb K1.out.lt)
  replace B := Lib.hid (B.out.trans (hb.mono B.out.size))
  have Rx := Lib.hid hr
  have Fx := Lib.hid hf
  clear hb hr hf
  clear b1c0 b1c1 b1c2
  have Ex1 := Lib.hid (show ∀ p, ax = some p → p.block ≠ g1 from fun p hp => by have h1 := Fx.out p hp; have h2 := Q.out; omega)
  clear Q Fx
  obtain ⟨b1c0, b1c1, b1c2⟩ := three K1.out
  have fz := fun q => K1.out.frozen q
  replace K1 := Lib.hid (show Blk ((((((w3).setCell ⟨g1, 0, none⟩ (.int .i64 10))).setCell ⟨g1, 1, none⟩ (.int .i64 1000))).setCell ⟨g1, 2, none⟩ (.slice ax sB1.length cx)) g1 24 #[.int .i64 10, .int .i64 1000, .slice ax sB1.length cx] from K1.out.set3 (.int .i64 10) (.int .i64 1000) (.slice ax sB1.length cx))
  replace Rx := Lib.hid (show RwA ((((((w3).setCell ⟨g1, 0, none⟩ (.int .i64 10))).setCell ⟨g1, 1, none⟩ (.int .i64 1000))).setCell ⟨g1, 2, none⟩ (.slice ax sB1.length cx)) _ _ from (RowsA.far (RowsA.far (RowsA.far Rx.out (p := ⟨g1, 0, none⟩) (Ex1.out) (.int .i64 10)) (p := ⟨g1, 1, none⟩) (Ex1.out) (.int .i64 1000)) (p := ⟨g1, 2, none⟩) (Ex1.out) (.slice ax sB1.length cx)))
  replace B := Lib.hid (show Below w.heap.size w ((((((w3).setCell ⟨g1, 0, none⟩ (.int .i64 10))).setCell ⟨g1, 1, none⟩ (.int .i64 1000))).setCell ⟨g1, 2, none⟩ (.slice ax sB1.length cx)) from ((((((B.out).setCell (p := ⟨g1, 0, none⟩) (show w.heap.size ≤ g1 from by have := L1.out; omega) (.int .i64 10))).setCell (p := ⟨g1, 1, none⟩) (show w.heap.size ≤ g1 from by have := L1.out; omega) (.int .i64 1000))).setCell (p := ⟨g1, 2, none⟩) (show w.heap.size ≤ g1 from by have := L1.out; omega) (.slice ax sB1.length cx)))
  go_upto_region 3 with (fail)
  generalize hw : ((((((w3).setCell ⟨g1, 0, none⟩ (.int .i64 10))).setCell ⟨g1, 1, none⟩ (.int .i64 1000))).setCell ⟨g1, 2, none⟩ (.slice ax sB1.length cx)) = w4 at K1 Rx B ⊢
  clear hw
  clear b1c0 b1c1 b1c2 fz
  obtain ⟨b1c0, b1c1, b1c2⟩ := three K1.out
  have Q := Lib.hid K1.out.lt
  go_wp2_with fail
  refine (sa_d2 ax cx w4 Rx.out).mono ?_
  rintro e w5 ⟨⟨ay, cy, rfl, hr, hf⟩, hb⟩
  replace K1 := Lib.hid (K1.out.below hb K1.out.lt)
  replace Rx := Lib.hid (Rx.out.mono hb)
  replace B := Lib.hid (B.out.trans (hb.mono B.out.size))
  have Ry := Lib.hid hr
  have Fy := Lib.hid hf
  clear hb hr hf
  clear b1c0 b1c1 b1c2
  have Ey1 := Lib.hid (show ∀ p, ay = some p → p.block ≠ g1 from fun p hp => by have h1 := Fy.out p hp; have h2 := Q.out; omega)
  clear Q Fy
  clear Rx Ex1
  obtain ⟨b1c0, b1c1, b1c2⟩ := three K1.out
  have fz := fun q => K1.out.frozen q
  replace K1 := Lib.hid (show Blk ((((((w5).setCell ⟨g1, 0, none⟩ (.int .i64 10))).setCell ⟨g1, 1, none⟩ (.int .i64 1000))).setCell ⟨g1, 2, none⟩ (.slice ay sB2.length cy)) g1 24 #[.int .i64 10, .int .i64 1000, .slice ay sB2.length cy] from K1.out.set3 (.int .i64 10) (.int .i64 1000) (.slice ay sB2.length cy))
  replace Ry := Lib.hid (show RwA ((((((w5).setCell ⟨g1, 0, none⟩ (.int .i64 10))).setCell ⟨g1, 1, none⟩ (.int .i64 1000))).setCell ⟨g1, 2, none⟩ (.slice ay sB2.length cy)) _ _ from (RowsA.far (RowsA.far (RowsA.far Ry.out (p := ⟨g1, 0, none⟩) (Ey1.out) (.int .i64 10)) (p := ⟨g1, 1, none⟩) (Ey1.out) (.int .i64 1000)) (p := ⟨g1, 2, none⟩) (Ey1.out) (.slice ay sB2.length cy)))
  replace B := Lib.hid (show Below w.heap.size w ((((((w5).setCell ⟨g1, 0, none⟩ (.int .i64 10))).setCell ⟨g1, 1, none⟩ (.int .i64 1000))).setCell ⟨g1, 2, none⟩ (.slice ay sB2.length cy)) from ((((((B.out).setCell (p := ⟨g1, 0, none⟩) (show w.heap.size ≤ g1 from by have := L1.out; omega) (.int .i64 10))).setCell (p := ⟨g1, 1, none⟩) (show w.heap.size ≤ g1 from by have := L1.out; omega) (.int .i64 1000))).setCell (p := ⟨g1, 2, none⟩) (show w.heap.size ≤ g1 from by have := L1.out; omega) (.slice ay sB2.length cy)))
  go_upto_region 4 with (fail)
  generalize hw : ((((((w5).setCell ⟨g1, 0, none⟩ (.int .i64 10))).setCell ⟨g1, 1, none⟩ (.int .i64 1000))).setCell ⟨g1, 2, none⟩ (.slice ay sB2.length cy)) = w6 at K1 Ry B ⊢
  clear hw
  clear b1c0 b1c1 b1c2 fz
  obtain ⟨b1c0, b1c1, b1c2⟩ := three K1.out
  go_wp2_with fail
  refine (sa_lm ay cy w6 Ry.out).mono ?_
  rintro e w7 ⟨rfl, hb⟩
  replace K1 := Lib.hid (K1.out.below hb K1.out.lt)
  replace Ry := Lib.hid (Ry.out.mono hb)
  replace B := Lib.hid (B.out.trans (hb.mono B.out.size))
  clear hb
  clear b1c0 b1c1 b1c2
  obtain ⟨b1c0, b1c1, b1c2⟩ := three K1.out
  obtain ⟨g5, hg5⟩ : ∃ G, w7.heap.size = G := ⟨_, rfl⟩
  have K5 := Lib.hid (show Blk (w7.alloc (.cells #[.int .i64 0, .int .i64 0, .slice none 0 0] 24)) g5 24 #[.int .i64 0, .int .i64 0, .slice none 0 0] from Blk.new' w7 _ _ _ hg5 rfl)
  have N15 := Lib.hid (show g1 < g5 from by rw [← hg5]; exact K1.out.lt)
  replace K1 := Lib.hid (K1.out.alloc (.cells #[.int .i64 0, .int .i64 0, .slice none 0 0] 24))
  replace Ry := Lib.hid (Ry.out.mono ((Below.refl _ w7).alloc (Nat.le_refl _) (.cells #[.int .i64 0, .int .i64 0, .slice none 0 0] 24)))
  replace B := Lib.hid (B.out.alloc B.out.size (.cells #[.int .i64 0, .int .i64 0, .slice none 0 0] 24))
  have S5 := Lib.hid hg5
  go_upto_region 5 with (fail)
  try rw [hg5]
  generalize hw : w7.alloc (.cells #[.int .i64 0, .int .i64 0, .slice none 0 0] 24) = w8 at K1 K5 Ry B ⊢
  clear hw hg5
  clear b1c0 b1c1 b1c2
  clear K5 S5 N15
  obtain ⟨b1c0, b1c1, b1c2⟩ := three K1.out
  go_wp2_with fail
  refine (sa_np w8).mono ?_
  rintro e w9 ⟨rfl, hb⟩
  replace K1 := Lib.hid (K1.out.below hb K1.out.lt)
  replace Ry := Lib.hid (Ry.out.mono hb)
  replace B := Lib.hid (B.out.trans (hb.mono B.out.size))
  clear hb
  clear b1c0 b1c1 b1c2
  have B0 := Lib.hid B.out.size
  have Q := Lib.hid (rwa_lt Ry.out (by decide))
  obtain ⟨b1c0, b1c1, b1c2⟩ := three K1.out
  obtain ⟨g7, hg7⟩ : ∃ G, w9.heap.size = G := ⟨_, rfl⟩
  have K7 := Lib.hid (show Blk (w9.alloc (.cells #[.int .i64 1000, .slice none 0 0] 45)) g7 45 #[.int .i64 1000, .slice none 0 0] from Blk.new' w9 _ _ _ hg7 rfl)
  have N17 := Lib.hid (show g1 < g7 from by rw [← hg7]; exact K1.out.lt)
  replace K1 := Lib.hid (K1.out.alloc (.cells #[.int .i64 1000, .slice none 0 0] 45))
  replace Ry := Lib.hid (Ry.out.mono ((Below.refl _ w9).alloc (Nat.le_refl _) (.cells #[.int .i64 1000, .slice none 0 0] 45)))
  replace B := Lib.hid (B.out.alloc B.out.size (.cells #[.int .i64 1000, .slice none 0 0] 45))
  have S7 := Lib.hid hg7
  go_upto_region 6 with (fail)
  try rw [hg7]
  generalize hw : w9.alloc (.cells #[.int .i64 1000, .slice none 0 0] 45) = w10 at K1 K7 Ry B ⊢
  clear hw hg7
  clear b1c0 b1c1 b1c2
  have L7 := Lib.hid (show w.heap.size ≤ g7 from by rw [← S7.out]; exact B0.out)
  have Ey7 := Lib.hid (show ∀ p, ay = some p → p.block ≠ g7 from fun p hp => by have h1 := Q.out p hp; have h2 := S7.out; omega)
  clear Q B0
  have DT := Lib.hid (fun (X : World) (h : Below w10.heap.size w10 X) => sa_dt ay cy X (Ry.out.mono h))
  have RC := Lib.hid (fun (X : World) => sa_rc none 0 X (RowsA.nil _ _ _ _))
  have BX := Lib.hid (show Below w10.heap.size w10 w10.drew from (Below.refl _ _).drew)
  go_cut [9] from 47 to 54 (fun u9 wx => u9 = .int .i64 0 ∧ ∃ az cz, Hid (Blk wx g1 24 #[.int .i64 10, .int .i64 1000, .slice ay sB2.length cy]) ∧ Hid (Blk wx g7 45 #[.int .i64 1000, .slice az sP1.length cz]) ∧ Hid (RwA wx ay sB2) ∧ Hid (RwA wx az sP1) ∧ Hid (∀ p, az = some p → p.block ≠ g7) ∧ Hid (Below w.heap.size w wx))
  case first =>
    have K1d := Lib.hid K1.out.drew
    have K7d := Lib.hid K7.out.drew
    have Ryd := Lib.hid (Ry.out.mono BX.out)
    have Bd := Lib.hid (B.out.drew)
    clear K1 K7 Ry B
    obtain ⟨b1c0, b1c1, b1c2⟩ := three K1d.out
    obtain ⟨b7c0, b7c1⟩ := twob K7d.out
    have fz := fun q => K7d.out.frozen q
    go_region_with (first | (go_at_call 20; with_reducible refine (DT.out _ BX.out).mono ?_; rintro e wd ⟨rfl, hb⟩; replace K1d := Lib.hid (K1d.out.below hb K1d.out.lt); replace K7d := Lib.hid (K7d.out.below hb K7d.out.lt); replace Ryd := Lib.hid (Ryd.out.mono hb); replace Bd := Lib.hid (Bd.out.trans (hb.mono Bd.out.size)); obtain ⟨b1c0, b1c1, b1c2⟩ := three K1d.out; obtain ⟨b7c0, b7c1⟩ := twob K7d.out; have fz := fun q => K7d.out.frozen q; clear hb) | (go_at_call 25; with_reducible refine (RC.out _).mono ?_; rintro e wr ⟨⟨az, cz, rfl, hr, hf⟩, hb⟩; have Rz := Lib.hid hr; have Fz := Lib.hid hf; have Q := Lib.hid K7d.out.lt; replace K1d := Lib.hid (K1d.out.below hb K1d.out.lt); replace K7d := Lib.hid (K7d.out.below hb K7d.out.lt); replace Ryd := Lib.hid (Ryd.out.mono hb); replace Bd := Lib.hid (Bd.out.trans (hb.mono Bd.out.size)); obtain ⟨b1c0, b1c1, b1c2⟩ := three K1d.out; obtain ⟨b7c0, b7c1⟩ := twob K7d.out; have fz := fun q => K7d.out.frozen q; clear hb hr hf))
    all_goals go_wp2_with fail
    all_goals go_meet
    all_goals
      have e0 : ∀ p, az = some p → p.block ≠ g7 := fun p hp => by have h1 := Fz.out p hp; have h2 := Q.out; omega
      exact ⟨rfl, az, cz, Lib.hid (Blk.far (Blk.far K1d.out (p := ⟨g7, 0, none⟩) (by have := N17.out; show g1 ≠ g7; omega) _) (p := ⟨g7, 1, none⟩) (by have := N17.out; show g1 ≠ g7; omega) _), Lib.hid (K7d.out.set2 _ _), Lib.hid (RowsA.far (RowsA.far Ryd.out (p := ⟨g7, 0, none⟩) Ey7.out _) (p := ⟨g7, 1, none⟩) Ey7.out _), Lib.hid (RowsA.far (RowsA.far Rz.out (p := ⟨g7, 0, none⟩) e0 _) (p := ⟨g7, 1, none⟩) e0 _), Lib.hid e0, Lib.hid ((Bd.out.setCell (p := ⟨g7, 0, none⟩) (show w.heap.size ≤ g7 from by have := L7.out; omega) _).setCell (p := ⟨g7, 1, none⟩) (show w.heap.size ≤ g7 from by have := L7.out; omega) _)⟩
  obtain ⟨rfl, az, cz, K1c, K7c, Ryc, Rzc, Ez7, Bc⟩ := hcut
  clear K1 K7 Ry B DT RC BX
  have K1 := K1c; have K7 := K7c; have Ry := Ryc; have Rz := Rzc; have B := Bc
  clear K1c K7c Ryc Rzc Bc

  obtain ⟨b1c0, b1c1, b1c2⟩ := three K1.out
  obtain ⟨b7c0, b7c1⟩ := twob K7.out
  have Q := Lib.hid K7.out.lt
  go_wp2_with fail
  refine (sa_sp az cz wc Rz.out).mono ?_
  rintro e w11 ⟨⟨au, cu, rfl, hr, hf⟩, hb⟩
  replace K1 := Lib.hid (K1.out.below hb K1.out.lt)
  replace K7 := Lib.hid (K7.out.below hb K7.out.lt)
  replace Ry := Lib.hid (Ry.out.mono hb)
  replace Rz := Lib.hid (Rz.out.mono hb)
  replace B := Lib.hid (B.out.trans (hb.mono B.out.size))
  have Ru := Lib.hid hr
  have Fu := Lib.hid hf
  clear hb hr hf
  clear b1c0 b1c1 b1c2 b7c0 b7c1
  have Eu7 := Lib.hid (show ∀ p, au = some p → p.block ≠ g7 from fun p hp => by have h1 := Fu.out p hp; have h2 := Q.out; omega)
  clear Q Fu Rz Ez7
  obtain ⟨b1c0, b1c1, b1c2⟩ := three K1.out
  obtain ⟨b7c0, b7c1⟩ := twob K7.out
  have fz := fun q => K7.out.frozen q
  replace K7 := Lib.hid (show Blk ((((w11).setCell ⟨g7, 0, none⟩ (.int .i64 1000))).setCell ⟨g7, 1, none⟩ (.slice au sP2.length cu)) g7 45 #[.int .i64 1000, .slice au sP2.length cu] from K7.out.set2 (.int .i64 1000) (.slice au sP2.length cu))
  replace K1 := Lib.hid (show Blk ((((w11).setCell ⟨g7, 0, none⟩ (.int .i64 1000))).setCell ⟨g7, 1, none⟩ (.slice au sP2.length cu)) g1 _ _ from (Blk.far (Blk.far K1.out (p := ⟨g7, 0, none⟩) (by have := N17.out; show g1 ≠ g7; omega) (.int .i64 1000)) (p := ⟨g7, 1, none⟩) (by have := N17.out; show g1 ≠ g7; omega) (.slice au sP2.length cu)))
  replace Ry := Lib.hid (show RwA ((((w11).setCell ⟨g7, 0, none⟩ (.int .i64 1000))).setCell ⟨g7, 1, none⟩ (.slice au sP2.length cu)) _ _ from (RowsA.far (RowsA.far Ry.out (p := ⟨g7, 0, none⟩) (Ey7.out) (.int .i64 1000)) (p := ⟨g7, 1, none⟩) (Ey7.out) (.slice au sP2.length cu)))
  replace Ru := Lib.hid (show RwA ((((w11).setCell ⟨g7, 0, none⟩ (.int .i64 1000))).setCell ⟨g7, 1, none⟩ (.slice au sP2.length cu)) _ _ from (RowsA.far (RowsA.far Ru.out (p := ⟨g7, 0, none⟩) (Eu7.out) (.int .i64 1000)) (p := ⟨g7, 1, none⟩) (Eu7.out) (.slice au sP2.length cu)))
  replace B := Lib.hid (show Below w.heap.size w ((((w11).setCell ⟨g7, 0, none⟩ (.int .i64 1000))).setCell ⟨g7, 1, none⟩ (.slice au sP2.length cu)) from ((((B.out).setCell (p := ⟨g7, 0, none⟩) (show w.heap.size ≤ g7 from by have := L7.out; omega) (.int .i64 1000))).setCell (p := ⟨g7, 1, none⟩) (show w.heap.size ≤ g7 from by have := L7.out; omega) (.slice au sP2.length cu)))
  go_upto_region 8 with (fail)
  generalize hw : ((((w11).setCell ⟨g7, 0, none⟩ (.int .i64 1000))).setCell ⟨g7, 1, none⟩ (.slice au sP2.length cu)) = w12 at K1 K7 Ry Ru B ⊢
  clear hw
  clear b1c0 b1c1 b1c2 b7c0 b7c1 fz
  obtain ⟨b1c0, b1c1, b1c2⟩ := three K1.out
  obtain ⟨b7c0, b7c1⟩ := twob K7.out
  go_wp2_with fail
  refine (sa_st au cu w12 Ru.out).mono ?_
  rintro e w13 ⟨rfl, hb⟩
  replace K1 := Lib.hid (K1.out.below hb K1.out.lt)
  replace K7 := Lib.hid (K7.out.below hb K7.out.lt)
  replace Ry := Lib.hid (Ry.out.mono hb)
  replace Ru := Lib.hid (Ru.out.mono hb)
  replace B := Lib.hid (B.out.trans (hb.mono B.out.size))
  clear hb
  clear b1c0 b1c1 b1c2 b7c0 b7c1
  obtain ⟨b1c0, b1c1, b1c2⟩ := three K1.out
  obtain ⟨b7c0, b7c1⟩ := twob K7.out
  obtain ⟨g11, hg11⟩ : ∃ G, w13.heap.size = G := ⟨_, rfl⟩
  have K11 := Lib.hid (show Blk (w13.alloc (.cells #[.int .i64 0, .slice none 0 0] 45)) g11 45 #[.int .i64 0, .slice none 0 0] from Blk.new' w13 _ _ _ hg11 rfl)
  have N111 := Lib.hid (show g1 < g11 from by rw [← hg11]; exact K1.out.lt)
  replace K1 := Lib.hid (K1.out.alloc (.cells #[.int .i64 0, .slice none 0 0] 45))
  have N711 := Lib.hid (show g7 < g11 from by rw [← hg11]; exact K7.out.lt)
  replace K7 := Lib.hid (K7.out.alloc (.cells #[.int .i64 0, .slice none 0 0] 45))
  replace Ry := Lib.hid (Ry.out.mono ((Below.refl _ w13).alloc (Nat.le_refl _) (.cells #[.int .i64 0, .slice none 0 0] 45)))
  replace Ru := Lib.hid (Ru.out.mono ((Below.refl _ w13).alloc (Nat.le_refl _) (.cells #[.int .i64 0, .slice none 0 0] 45)))
  replace B := Lib.hid (B.out.alloc B.out.size (.cells #[.int .i64 0, .slice none 0 0] 45))
  have S11 := Lib.hid hg11
  go_upto_region 9 with (fail)
  try rw [hg11]
  generalize hw : w13.alloc (.cells #[.int .i64 0, .slice none 0 0] 45) = w14 at K1 K7 K11 Ry Ru B ⊢
  clear hw hg11
  clear b1c0 b1c1 b1c2 b7c0 b7c1
  clear K11 S11 N111 N711
  obtain ⟨b1c0, b1c1, b1c2⟩ := three K1.out
  obtain ⟨b7c0, b7c1⟩ := twob K7.out
  have Q := Lib.hid K7.out.lt
  go_wp2_with fail
  refine (sa_gv au cu w14 Ru.out).mono ?_
  rintro e w15 ⟨⟨av, cv, rfl, hr, hf⟩, hb⟩
  replace K1 := Lib.hid (K1.out.below hb K1.out.lt)
  replace K7 := Lib.hid (K7.out.below hb K7.out.lt)
  replace Ry := Lib.hid (Ry.out.mono hb)
  replace Ru := Lib.hid (Ru.out.mono hb)
  replace B := Lib.hid (B.out.trans (hb.mono B.out.size))
  have Rv := Lib.hid hr
  have Fv := Lib.hid hf
  clear hb hr hf
  clear b1c0 b1c1 b1c2 b7c0 b7c1
  have Ev7 := Lib.hid (show ∀ p, av = some p → p.block ≠ g7 from fun p hp => by have h1 := Fv.out p hp; have h2 := Q.out; omega)
  clear Q Fv Ru Eu7
  obtain ⟨b1c0, b1c1, b1c2⟩ := three K1.out
  obtain ⟨b7c0, b7c1⟩ := twob K7.out
  have fz := fun q => K7.out.frozen q
  replace K7 := Lib.hid (show Blk ((((w15).setCell ⟨g7, 0, none⟩ (.int .i64 1000))).setCell ⟨g7, 1, none⟩ (.slice av sP3.length cv)) g7 45 #[.int .i64 1000, .slice av sP3.length cv] from K7.out.set2 (.int .i64 1000) (.slice av sP3.length cv))
  replace K1 := Lib.hid (show Blk ((((w15).setCell ⟨g7, 0, none⟩ (.int .i64 1000))).setCell ⟨g7, 1, none⟩ (.slice av sP3.length cv)) g1 _ _ from (Blk.far (Blk.far K1.out (p := ⟨g7, 0, none⟩) (by have := N17.out; show g1 ≠ g7; omega) (.int .i64 1000)) (p := ⟨g7, 1, none⟩) (by have := N17.out; show g1 ≠ g7; omega) (.slice av sP3.length cv)))
  replace Ry := Lib.hid (show RwA ((((w15).setCell ⟨g7, 0, none⟩ (.int .i64 1000))).setCell ⟨g7, 1, none⟩ (.slice av sP3.length cv)) _ _ from (RowsA.far (RowsA.far Ry.out (p := ⟨g7, 0, none⟩) (Ey7.out) (.int .i64 1000)) (p := ⟨g7, 1, none⟩) (Ey7.out) (.slice av sP3.length cv)))
  replace Rv := Lib.hid (show RwA ((((w15).setCell ⟨g7, 0, none⟩ (.int .i64 1000))).setCell ⟨g7, 1, none⟩ (.slice av sP3.length cv)) _ _ from (RowsA.far (RowsA.far Rv.out (p := ⟨g7, 0, none⟩) (Ev7.out) (.int .i64 1000)) (p := ⟨g7, 1, none⟩) (Ev7.out) (.slice av sP3.length cv)))
  replace B := Lib.hid (show Below w.heap.size w ((((w15).setCell ⟨g7, 0, none⟩ (.int .i64 1000))).setCell ⟨g7, 1, none⟩ (.slice av sP3.length cv)) from ((((B.out).setCell (p := ⟨g7, 0, none⟩) (show w.heap.size ≤ g7 from by have := L7.out; omega) (.int .i64 1000))).setCell (p := ⟨g7, 1, none⟩) (show w.heap.size ≤ g7 from by have := L7.out; omega) (.slice av sP3.length cv)))
  go_upto_region 10 with (fail)
  generalize hw : ((((w15).setCell ⟨g7, 0, none⟩ (.int .i64 1000))).setCell ⟨g7, 1, none⟩ (.slice av sP3.length cv)) = w16 at K1 K7 Ry Rv B ⊢
  clear hw
  clear b1c0 b1c1 b1c2 b7c0 b7c1 fz
  have BK := Lib.hid (fun (X : World) (h : Below w16.heap.size w16 X) => sa_bk av cv X (Rv.out.mono h))
  have RT := Lib.hid (fun (X : World) (h : Below w16.heap.size w16 X) => sa_rt ay cy X (Ry.out.mono h))
  go_cut [14, 15] from 71 to 78 (fun u14 u15 wx => u15 = .int .i64 0 ∧ ∃ g14 am cm, u14 = .pointer (some ⟨g14, 0, none⟩) ∧ Hid (Blk wx g14 24 #[.int .i64 10, .int .i64 1000, .slice am sB3.length cm]) ∧ Hid (RwA wx am sB3) ∧ Hid (Below w16.heap.size w16 wx))
  case first =>
    go_region_held3 (fun X => (X.cell? ⟨g1, 0, none⟩ = some (.int .i64 10) ∧ X.cell? ⟨g1, 1, none⟩ = some (.int .i64 1000) ∧ X.cell? ⟨g1, 2, none⟩ = some (.slice ay sB2.length cy)) ∧ X.cell? ⟨g7, 0, none⟩ = some (.int .i64 1000) ∧ X.cell? ⟨g7, 1, none⟩ = some (.slice av sP3.length cv)) (first | with_reducible exact ⟨three K1.out.drew, twob K7.out.drew⟩ | with_reducible exact ⟨three (K1.out.alloc _).drew, twob (K7.out.alloc _).drew⟩ | with_reducible exact ⟨three K1d.out, twob K7d.out⟩ | with_reducible exact ⟨three (K1d.out.alloc _), twob (K7d.out.alloc _)⟩ | with_reducible exact ⟨three K1e.out, twob K7e.out⟩ | with_reducible exact ⟨three (K1e.out.alloc _), twob (K7e.out.alloc _)⟩ | (with_reducible refine ⟨three (((Blk.far (Blk.far (Blk.far K1e.out ?_ _) ?_ _) ?_ _))), twob (((Blk.far (Blk.far (Blk.far K7e.out ?_ _) ?_ _) ?_ _)))⟩ <;> first | (have := N17.out; have := K1.out.lt; have := K7.out.lt; have := BW.out.size; show _ ≠ _; simp; omega))) (first | (go_at_call 39; refine (BK.out _ (by (repeat' (first | (with_reducible exact Below.refl _ _) | (with_reducible assumption) | (with_reducible refine Below.alloc ?_ ?_ _) | (with_reducible refine Below.drew ?_) | (with_reducible refine below_dn ?_) | (with_reducible refine Below.setCell ?_ ?_ _) | (with_reducible exact Nat.le_refl _) | omega | (simp only [World.size_alloc, World.size_setCell, World.size_drew]; omega) | (simp; omega) | (simp; done))))).mono ?_; rintro e wd ⟨rfl, hb⟩; have BW := Lib.hid (show Below w16.heap.size w16 wd from by refine Below.trans ?_ (hb.mono ?_) <;> (repeat' (first | (with_reducible exact Below.refl _ _) | (with_reducible assumption) | (with_reducible refine Below.alloc ?_ ?_ _) | (with_reducible refine Below.drew ?_) | (with_reducible refine below_dn ?_) | (with_reducible refine Below.setCell ?_ ?_ _) | (with_reducible exact Nat.le_refl _) | omega | (simp only [World.size_alloc, World.size_setCell, World.size_drew]; omega) | (simp; omega) | (simp; done)))); have K1d := Lib.hid (K1.out.below BW.out K1.out.lt); have K7d := Lib.hid (K7.out.below BW.out K7.out.lt); (try (refine (have OZ : Hid (Blk wd w16.heap.size 24 #[.int .i64 0, .int .i64 0, .slice none 0 0]) := ?hz; ?_); (case hz => exact Lib.hid (((Blk.new _ _ _).drew).below hb (by simp))))); clear hb) | (go_at_call 11; refine (RT.out _ (by first | exact BW.out | exact BW.out.alloc BW.out.size _)).mono ?_; rintro e wr ⟨⟨am, cm, rfl, hr, hf⟩, hb⟩; have HR := Lib.hid hr; have HF := Lib.hid hf; have BV := Lib.hid (show Below w16.heap.size w16 wr from by refine Below.trans ?_ (hb.mono ?_) <;> first | exact BW.out | exact BW.out.alloc BW.out.size _ | exact BW.out.size | (have := BW.out.size; simp; omega)); have K1e := Lib.hid (K1.out.below BV.out K1.out.lt); have K7e := Lib.hid (K7.out.below BV.out K7.out.lt); (try (refine (have O2 : Hid (Blk wr w16.heap.size 24 #[.int .i64 0, .int .i64 0, .slice none 0 0]) := ?hz; ?_); (case hz => exact Lib.hid (OZ.out.below hb OZ.out.lt)); have O20 := O2.out.cell 0; change _ = some (Value.int .i64 0) at O20; have O21 := O2.out.cell 1; change _ = some (Value.int .i64 0) at O21; have O22 := O2.out.cell 2; change _ = some (Value.slice none 0 0) at O22; have O2f := fun q => O2.out.frozen q)); (try (refine (have O3 : Hid (Blk wr wd.heap.size 24 #[.int .i64 0, .int .i64 0, .slice none 0 0]) := ?hz; ?_); (case hz => exact Lib.hid ((Blk.new _ _ _).below hb (by simp))); have O30 := O3.out.cell 0; change _ = some (Value.int .i64 0) at O30; have O31 := O3.out.cell 1; change _ = some (Value.int .i64 0) at O31; have O32 := O3.out.cell 2; change _ = some (Value.slice none 0 0) at O32; have O3f := fun q => O3.out.frozen q)); clear hb hr hf))
    all_goals go_wp2_with fail
    all_goals go_meet
    all_goals first
      | exact ⟨rfl, wr.heap.size, am, cm, rfl, Lib.hid (Blk.new _ _ _), Lib.hid (HR.out.mono ((Below.refl _ wr).alloc (Nat.le_refl _) _)), Lib.hid (BV.out.alloc BV.out.size _)⟩
      | (have e0 : ∀ p, am = some p → p.block ≠ wd.heap.size := fun p hp => by have h1 := HF.out p hp; simp at h1; omega
         have e1 := BW.out.size
         exact ⟨rfl, wd.heap.size, am, cm, rfl, Lib.hid (((O3.out.set_ 0 _).set_ 1 _).set_ 2 _), Lib.hid (RowsA.far (RowsA.far (RowsA.far HR.out (p := ⟨wd.heap.size, 0, none⟩) e0 _) (p := ⟨wd.heap.size, 1, none⟩) e0 _) (p := ⟨wd.heap.size, 2, none⟩) e0 _), Lib.hid (((BV.out.setCell (p := ⟨wd.heap.size, 0, none⟩) e1 _).setCell (p := ⟨wd.heap.size, 1, none⟩) e1 _).setCell (p := ⟨wd.heap.size, 2, none⟩) e1 _)⟩)
      | (have e0 : ∀ p, am = some p → p.block ≠ w16.heap.size := fun p hp => by have h1 := HF.out p hp; have h2 := OZ.out.lt; omega
         have e1 := Nat.le_refl w16.heap.size
         exact ⟨rfl, w16.heap.size, am, cm, rfl, Lib.hid (((O2.out.set_ 0 _).set_ 1 _).set_ 2 _), Lib.hid (RowsA.far (RowsA.far (RowsA.far HR.out (p := ⟨w16.heap.size, 0, none⟩) e0 _) (p := ⟨w16.heap.size, 1, none⟩) e0 _) (p := ⟨w16.heap.size, 2, none⟩) e0 _), Lib.hid (((BV.out.setCell (p := ⟨w16.heap.size, 0, none⟩) e1 _).setCell (p := ⟨w16.heap.size, 1, none⟩) e1 _).setCell (p := ⟨w16.heap.size, 2, none⟩) e1 _)⟩)
  obtain ⟨rfl, g14, am, cm, rfl, K14, Rm, BZ⟩ := hcut
  replace K1 := Lib.hid (K1.out.below BZ.out K1.out.lt)
  replace K7 := Lib.hid (K7.out.below BZ.out K7.out.lt)
  replace Ry := Lib.hid (Ry.out.mono BZ.out)
  replace Rv := Lib.hid (Rv.out.mono BZ.out)
  replace B := Lib.hid (B.out.trans (BZ.out.mono B.out.size))
  clear BZ BK RT

  obtain ⟨b1c0, b1c1, b1c2⟩ := three K1.out
  obtain ⟨b7c0, b7c1⟩ := twob K7.out
  obtain ⟨b14c0, b14c1, b14c2⟩ := three K14.out
  go_wp2_with fail
  refine (sa_d3 am cm wc Rm.out).mono ?_
  rintro e w17 ⟨⟨aq, cq, rfl, hr, hf⟩, hb⟩
  replace K1 := Lib.hid (K1.out.below hb K1.out.lt)
  replace K7 := Lib.hid (K7.out.below hb K7.out.lt)
  replace K14 := Lib.hid (K14.out.below hb K14.out.lt)
  replace Ry := Lib.hid (Ry.out.mono hb)
  replace Rv := Lib.hid (Rv.out.mono hb)
  replace Rm := Lib.hid (Rm.out.mono hb)
  replace B := Lib.hid (B.out.trans (hb.mono B.out.size))
  have Rq := Lib.hid hr
  have Fq := Lib.hid hf
  clear hb hr hf
  clear b1c0 b1c1 b1c2 b7c0 b7c1 b14c0 b14c1 b14c2
  clear Fq
  obtain ⟨b1c0, b1c1, b1c2⟩ := three K1.out
  obtain ⟨b7c0, b7c1⟩ := twob K7.out
  obtain ⟨b14c0, b14c1, b14c2⟩ := three K14.out
  obtain ⟨g16, hg16⟩ : ∃ G, w17.heap.size = G := ⟨_, rfl⟩
  have K16 := Lib.hid (show Blk (w17.alloc (.cells #[.int .i64 10, .int .i64 1000, .slice aq sB4.length cq] 24)) g16 24 #[.int .i64 10, .int .i64 1000, .slice aq sB4.length cq] from Blk.new' w17 _ _ _ hg16 rfl)
  have N116 := Lib.hid (show g1 < g16 from by rw [← hg16]; exact K1.out.lt)
  replace K1 := Lib.hid (K1.out.alloc (.cells #[.int .i64 10, .int .i64 1000, .slice aq sB4.length cq] 24))
  have N716 := Lib.hid (show g7 < g16 from by rw [← hg16]; exact K7.out.lt)
  replace K7 := Lib.hid (K7.out.alloc (.cells #[.int .i64 10, .int .i64 1000, .slice aq sB4.length cq] 24))
  have N1416 := Lib.hid (show g14 < g16 from by rw [← hg16]; exact K14.out.lt)
  replace K14 := Lib.hid (K14.out.alloc (.cells #[.int .i64 10, .int .i64 1000, .slice aq sB4.length cq] 24))
  replace Ry := Lib.hid (Ry.out.mono ((Below.refl _ w17).alloc (Nat.le_refl _) (.cells #[.int .i64 10, .int .i64 1000, .slice aq sB4.length cq] 24)))
  replace Rv := Lib.hid (Rv.out.mono ((Below.refl _ w17).alloc (Nat.le_refl _) (.cells #[.int .i64 10, .int .i64 1000, .slice aq sB4.length cq] 24)))
  replace Rm := Lib.hid (Rm.out.mono ((Below.refl _ w17).alloc (Nat.le_refl _) (.cells #[.int .i64 10, .int .i64 1000, .slice aq sB4.length cq] 24)))
  replace Rq := Lib.hid (Rq.out.mono ((Below.refl _ w17).alloc (Nat.le_refl _) (.cells #[.int .i64 10, .int .i64 1000, .slice aq sB4.length cq] 24)))
  replace B := Lib.hid (B.out.alloc B.out.size (.cells #[.int .i64 10, .int .i64 1000, .slice aq sB4.length cq] 24))
  have S16 := Lib.hid hg16
  go_upto_region 12 with (fail)
  try rw [hg16]
  generalize hw : w17.alloc (.cells #[.int .i64 10, .int .i64 1000, .slice aq sB4.length cq] 24) = w18 at K1 K7 K14 K16 Ry Rv Rm Rq B ⊢
  clear hw hg16
  clear b1c0 b1c1 b1c2 b7c0 b7c1 b14c0 b14c1 b14c2
  obtain ⟨b1c0, b1c1, b1c2⟩ := three K1.out
  obtain ⟨b7c0, b7c1⟩ := twob K7.out
  obtain ⟨b14c0, b14c1, b14c2⟩ := three K14.out
  obtain ⟨b16c0, b16c1, b16c2⟩ := three K16.out
  go_wp2_with fail
  refine (sa_f1 aq cq w18 Rq.out).mono ?_
  rintro e w19 ⟨⟨ak, ck, rfl, hr, hf⟩, hb⟩
  replace K1 := Lib.hid (K1.out.below hb K1.out.lt)
  replace K7 := Lib.hid (K7.out.below hb K7.out.lt)
  replace K14 := Lib.hid (K14.out.below hb K14.out.lt)
  replace K16 := Lib.hid (K16.out.below hb K16.out.lt)
  replace Ry := Lib.hid (Ry.out.mono hb)
  replace Rv := Lib.hid (Rv.out.mono hb)
  replace Rm := Lib.hid (Rm.out.mono hb)
  replace Rq := Lib.hid (Rq.out.mono hb)
  replace B := Lib.hid (B.out.trans (hb.mono B.out.size))
  have Rk := Lib.hid hr
  have Fk := Lib.hid hf
  clear hb hr hf
  clear b1c0 b1c1 b1c2 b7c0 b7c1 b14c0 b14c1 b14c2 b16c0 b16c1 b16c2
  clear Fk
  obtain ⟨b1c0, b1c1, b1c2⟩ := three K1.out
  obtain ⟨b7c0, b7c1⟩ := twob K7.out
  obtain ⟨b14c0, b14c1, b14c2⟩ := three K14.out
  obtain ⟨b16c0, b16c1, b16c2⟩ := three K16.out
  obtain ⟨g18, hg18⟩ : ∃ G, w19.heap.size = G := ⟨_, rfl⟩
  have K18 := Lib.hid (show Blk (w19.alloc (.cells #[.int .i64 10, .int .i64 1000, .slice ak sB4.length ck] 24)) g18 24 #[.int .i64 10, .int .i64 1000, .slice ak sB4.length ck] from Blk.new' w19 _ _ _ hg18 rfl)
  have N118 := Lib.hid (show g1 < g18 from by rw [← hg18]; exact K1.out.lt)
  replace K1 := Lib.hid (K1.out.alloc (.cells #[.int .i64 10, .int .i64 1000, .slice ak sB4.length ck] 24))
  have N718 := Lib.hid (show g7 < g18 from by rw [← hg18]; exact K7.out.lt)
  replace K7 := Lib.hid (K7.out.alloc (.cells #[.int .i64 10, .int .i64 1000, .slice ak sB4.length ck] 24))
  have N1418 := Lib.hid (show g14 < g18 from by rw [← hg18]; exact K14.out.lt)
  replace K14 := Lib.hid (K14.out.alloc (.cells #[.int .i64 10, .int .i64 1000, .slice ak sB4.length ck] 24))
  have N1618 := Lib.hid (show g16 < g18 from by rw [← hg18]; exact K16.out.lt)
  replace K16 := Lib.hid (K16.out.alloc (.cells #[.int .i64 10, .int .i64 1000, .slice ak sB4.length ck] 24))
  replace Ry := Lib.hid (Ry.out.mono ((Below.refl _ w19).alloc (Nat.le_refl _) (.cells #[.int .i64 10, .int .i64 1000, .slice ak sB4.length ck] 24)))
  replace Rv := Lib.hid (Rv.out.mono ((Below.refl _ w19).alloc (Nat.le_refl _) (.cells #[.int .i64 10, .int .i64 1000, .slice ak sB4.length ck] 24)))
  replace Rm := Lib.hid (Rm.out.mono ((Below.refl _ w19).alloc (Nat.le_refl _) (.cells #[.int .i64 10, .int .i64 1000, .slice ak sB4.length ck] 24)))
  replace Rq := Lib.hid (Rq.out.mono ((Below.refl _ w19).alloc (Nat.le_refl _) (.cells #[.int .i64 10, .int .i64 1000, .slice ak sB4.length ck] 24)))
  replace Rk := Lib.hid (Rk.out.mono ((Below.refl _ w19).alloc (Nat.le_refl _) (.cells #[.int .i64 10, .int .i64 1000, .slice ak sB4.length ck] 24)))
  replace B := Lib.hid (B.out.alloc B.out.size (.cells #[.int .i64 10, .int .i64 1000, .slice ak sB4.length ck] 24))
  have S18 := Lib.hid hg18
  go_upto_region 13 with (fail)
  try rw [hg18]
  generalize hw : w19.alloc (.cells #[.int .i64 10, .int .i64 1000, .slice ak sB4.length ck] 24) = w20 at K1 K7 K14 K16 K18 Ry Rv Rm Rq Rk B ⊢
  clear hw hg18
  clear b1c0 b1c1 b1c2 b7c0 b7c1 b14c0 b14c1 b14c2 b16c0 b16c1 b16c2
  obtain ⟨b1c0, b1c1, b1c2⟩ := three K1.out
  obtain ⟨b7c0, b7c1⟩ := twob K7.out
  obtain ⟨b14c0, b14c1, b14c2⟩ := three K14.out
  obtain ⟨b16c0, b16c1, b16c2⟩ := three K16.out
  obtain ⟨b18c0, b18c1, b18c2⟩ := three K18.out
  go_wp2_with fail
  refine (sa_f2 aq cq w20 Rq.out).mono ?_
  rintro e w21 ⟨⟨aj, cj, rfl, hr, hf⟩, hb⟩
  replace K1 := Lib.hid (K1.out.below hb K1.out.lt)
  replace K7 := Lib.hid (K7.out.below hb K7.out.lt)
  replace K14 := Lib.hid (K14.out.below hb K14.out.lt)
  replace K16 := Lib.hid (K16.out.below hb K16.out.lt)
  replace K18 := Lib.hid (K18.out.below hb K18.out.lt)
  replace Ry := Lib.hid (Ry.out.mono hb)
  replace Rv := Lib.hid (Rv.out.mono hb)
  replace Rm := Lib.hid (Rm.out.mono hb)
  replace Rq := Lib.hid (Rq.out.mono hb)
  replace Rk := Lib.hid (Rk.out.mono hb)
  replace B := Lib.hid (B.out.trans (hb.mono B.out.size))
  have Rj := Lib.hid hr
  have Fj := Lib.hid hf
  clear hb hr hf
  clear b1c0 b1c1 b1c2 b7c0 b7c1 b14c0 b14c1 b14c2 b16c0 b16c1 b16c2 b18c0 b18c1 b18c2
  clear Fj Rj Rk
  obtain ⟨b1c0, b1c1, b1c2⟩ := three K1.out
  obtain ⟨b7c0, b7c1⟩ := twob K7.out
  obtain ⟨b14c0, b14c1, b14c2⟩ := three K14.out
  obtain ⟨b16c0, b16c1, b16c2⟩ := three K16.out
  obtain ⟨b18c0, b18c1, b18c2⟩ := three K18.out
  obtain ⟨g20, hg20⟩ : ∃ G, w21.heap.size = G := ⟨_, rfl⟩
  have K20 := Lib.hid (show Blk (w21.alloc (.cells #[.int .i64 10, .int .i64 1000, .slice aj 0 cj] 24)) g20 24 #[.int .i64 10, .int .i64 1000, .slice aj 0 cj] from Blk.new' w21 _ _ _ hg20 rfl)
  have N120 := Lib.hid (show g1 < g20 from by rw [← hg20]; exact K1.out.lt)
  replace K1 := Lib.hid (K1.out.alloc (.cells #[.int .i64 10, .int .i64 1000, .slice aj 0 cj] 24))
  have N720 := Lib.hid (show g7 < g20 from by rw [← hg20]; exact K7.out.lt)
  replace K7 := Lib.hid (K7.out.alloc (.cells #[.int .i64 10, .int .i64 1000, .slice aj 0 cj] 24))
  have N1420 := Lib.hid (show g14 < g20 from by rw [← hg20]; exact K14.out.lt)
  replace K14 := Lib.hid (K14.out.alloc (.cells #[.int .i64 10, .int .i64 1000, .slice aj 0 cj] 24))
  have N1620 := Lib.hid (show g16 < g20 from by rw [← hg20]; exact K16.out.lt)
  replace K16 := Lib.hid (K16.out.alloc (.cells #[.int .i64 10, .int .i64 1000, .slice aj 0 cj] 24))
  have N1820 := Lib.hid (show g18 < g20 from by rw [← hg20]; exact K18.out.lt)
  replace K18 := Lib.hid (K18.out.alloc (.cells #[.int .i64 10, .int .i64 1000, .slice aj 0 cj] 24))
  replace Ry := Lib.hid (Ry.out.mono ((Below.refl _ w21).alloc (Nat.le_refl _) (.cells #[.int .i64 10, .int .i64 1000, .slice aj 0 cj] 24)))
  replace Rv := Lib.hid (Rv.out.mono ((Below.refl _ w21).alloc (Nat.le_refl _) (.cells #[.int .i64 10, .int .i64 1000, .slice aj 0 cj] 24)))
  replace Rm := Lib.hid (Rm.out.mono ((Below.refl _ w21).alloc (Nat.le_refl _) (.cells #[.int .i64 10, .int .i64 1000, .slice aj 0 cj] 24)))
  replace Rq := Lib.hid (Rq.out.mono ((Below.refl _ w21).alloc (Nat.le_refl _) (.cells #[.int .i64 10, .int .i64 1000, .slice aj 0 cj] 24)))
  replace B := Lib.hid (B.out.alloc B.out.size (.cells #[.int .i64 10, .int .i64 1000, .slice aj 0 cj] 24))
  have S20 := Lib.hid hg20
  go_upto_region 14 with (fail)
  try rw [hg20]
  generalize hw : w21.alloc (.cells #[.int .i64 10, .int .i64 1000, .slice aj 0 cj] 24) = w22 at K1 K7 K14 K16 K18 K20 Ry Rv Rm Rq B ⊢
  clear hw hg20
  clear b1c0 b1c1 b1c2 b7c0 b7c1 b14c0 b14c1 b14c2 b16c0 b16c1 b16c2 b18c0 b18c1 b18c2
  have n4 : ((sB4.length : Int) == 2) = true := by decide
  obtain ⟨b1c0, b1c1, b1c2⟩ := three K1.out
  obtain ⟨b7c0, b7c1⟩ := twob K7.out
  obtain ⟨b14c0, b14c1, b14c2⟩ := three K14.out
  obtain ⟨b16c0, b16c1, b16c2⟩ := three K16.out
  obtain ⟨b18c0, b18c1, b18c2⟩ := three K18.out
  obtain ⟨b20c0, b20c1, b20c2⟩ := three K20.out
  go_wp2_with fail
  refine (sa_o2 ay cy w22 Ry.out).mono ?_
  rintro e w23 ⟨rfl, hb⟩
  replace K1 := Lib.hid (K1.out.below hb K1.out.lt)
  replace K7 := Lib.hid (K7.out.below hb K7.out.lt)
  replace K14 := Lib.hid (K14.out.below hb K14.out.lt)
  replace K16 := Lib.hid (K16.out.below hb K16.out.lt)
  replace K18 := Lib.hid (K18.out.below hb K18.out.lt)
  replace K20 := Lib.hid (K20.out.below hb K20.out.lt)
  replace Ry := Lib.hid (Ry.out.mono hb)
  replace Rv := Lib.hid (Rv.out.mono hb)
  replace Rm := Lib.hid (Rm.out.mono hb)
  replace Rq := Lib.hid (Rq.out.mono hb)
  replace B := Lib.hid (B.out.trans (hb.mono B.out.size))
  clear hb
  clear b1c0 b1c1 b1c2 b7c0 b7c1 b14c0 b14c1 b14c2 b16c0 b16c1 b16c2 b18c0 b18c1 b18c2 b20c0 b20c1 b20c2
  obtain ⟨b1c0, b1c1, b1c2⟩ := three K1.out
  obtain ⟨b7c0, b7c1⟩ := twob K7.out
  obtain ⟨b14c0, b14c1, b14c2⟩ := three K14.out
  obtain ⟨b16c0, b16c1, b16c2⟩ := three K16.out
  obtain ⟨b18c0, b18c1, b18c2⟩ := three K18.out
  obtain ⟨b20c0, b20c1, b20c2⟩ := three K20.out
  go_wp2_with fail
  refine (sa_lf av cv w23 Rv.out).mono ?_
  rintro e w24 ⟨rfl, hb⟩
  replace K1 := Lib.hid (K1.out.below hb K1.out.lt)
  replace K7 := Lib.hid (K7.out.below hb K7.out.lt)
  replace K14 := Lib.hid (K14.out.below hb K14.out.lt)
  replace K16 := Lib.hid (K16.out.below hb K16.out.lt)
  replace K18 := Lib.hid (K18.out.below hb K18.out.lt)
  replace K20 := Lib.hid (K20.out.below hb K20.out.lt)
  replace Ry := Lib.hid (Ry.out.mono hb)
  replace Rv := Lib.hid (Rv.out.mono hb)
  replace Rm := Lib.hid (Rm.out.mono hb)
  replace Rq := Lib.hid (Rq.out.mono hb)
  replace B := Lib.hid (B.out.trans (hb.mono B.out.size))
  clear hb
  clear b1c0 b1c1 b1c2 b7c0 b7c1 b14c0 b14c1 b14c2 b16c0 b16c1 b16c2 b18c0 b18c1 b18c2 b20c0 b20c1 b20c2
  obtain ⟨b1c0, b1c1, b1c2⟩ := three K1.out
  obtain ⟨b7c0, b7c1⟩ := twob K7.out
  obtain ⟨b14c0, b14c1, b14c2⟩ := three K14.out
  obtain ⟨b16c0, b16c1, b16c2⟩ := three K16.out
  obtain ⟨b18c0, b18c1, b18c2⟩ := three K18.out
  obtain ⟨b20c0, b20c1, b20c2⟩ := three K20.out
  go_wp2_with fail
  refine (sa_o3 am cm w24 Rm.out).mono ?_
  rintro e w25 ⟨rfl, hb⟩
  replace K1 := Lib.hid (K1.out.below hb K1.out.lt)
  replace K7 := Lib.hid (K7.out.below hb K7.out.lt)
  replace K14 := Lib.hid (K14.out.below hb K14.out.lt)
  replace K16 := Lib.hid (K16.out.below hb K16.out.lt)
  replace K18 := Lib.hid (K18.out.below hb K18.out.lt)
  replace K20 := Lib.hid (K20.out.below hb K20.out.lt)
  replace Ry := Lib.hid (Ry.out.mono hb)
  replace Rv := Lib.hid (Rv.out.mono hb)
  replace Rm := Lib.hid (Rm.out.mono hb)
  replace Rq := Lib.hid (Rq.out.mono hb)
  replace B := Lib.hid (B.out.trans (hb.mono B.out.size))
  clear hb
  clear b1c0 b1c1 b1c2 b7c0 b7c1 b14c0 b14c1 b14c2 b16c0 b16c1 b16c2 b18c0 b18c1 b18c2 b20c0 b20c1 b20c2
  obtain ⟨b1c0, b1c1, b1c2⟩ := three K1.out
  obtain ⟨b7c0, b7c1⟩ := twob K7.out
  obtain ⟨b14c0, b14c1, b14c2⟩ := three K14.out
  obtain ⟨b16c0, b16c1, b16c2⟩ := three K16.out
  obtain ⟨b18c0, b18c1, b18c2⟩ := three K18.out
  obtain ⟨b20c0, b20c1, b20c2⟩ := three K20.out
  go_wp2_with fail
  refine (sa_o4 aq cq w25 Rq.out).mono ?_
  rintro e w26 ⟨rfl, hb⟩
  replace K1 := Lib.hid (K1.out.below hb K1.out.lt)
  replace K7 := Lib.hid (K7.out.below hb K7.out.lt)
  replace K14 := Lib.hid (K14.out.below hb K14.out.lt)
  replace K16 := Lib.hid (K16.out.below hb K16.out.lt)
  replace K18 := Lib.hid (K18.out.below hb K18.out.lt)
  replace K20 := Lib.hid (K20.out.below hb K20.out.lt)
  replace Ry := Lib.hid (Ry.out.mono hb)
  replace Rv := Lib.hid (Rv.out.mono hb)
  replace Rm := Lib.hid (Rm.out.mono hb)
  replace Rq := Lib.hid (Rq.out.mono hb)
  replace B := Lib.hid (B.out.trans (hb.mono B.out.size))
  clear hb
  clear b1c0 b1c1 b1c2 b7c0 b7c1 b14c0 b14c1 b14c2 b16c0 b16c1 b16c2 b18c0 b18c1 b18c2 b20c0 b20c1 b20c2
  obtain ⟨b1c0, b1c1, b1c2⟩ := three K1.out
  obtain ⟨b7c0, b7c1⟩ := twob K7.out
  obtain ⟨b14c0, b14c1, b14c2⟩ := three K14.out
  obtain ⟨b16c0, b16c1, b16c2⟩ := three K16.out
  obtain ⟨b18c0, b18c1, b18c2⟩ := three K18.out
  obtain ⟨b20c0, b20c1, b20c2⟩ := three K20.out
  go_wp2
  refine bodyPost_ret (by simp [results, Try.results8, go_sem]; try rfl) rfl ?_
  exact ⟨rfl, B.out⟩
end Go.Proofs.Ytcgdhankllphgaa
