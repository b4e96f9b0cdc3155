/- The examples of the law's package hold. -/
import Derived.Test.YtlihndekeaefcaaK
namespace Go.Proofs.Ytlihndekeaefcaa
set_option linter.unusedVariables false
set_option linter.unusedSimpArgs false
open Go.RowKit
set_option maxRecDepth 100000 in
set_option maxHeartbeats 4000000 in
theorem sane (w : World) : Calls Try.prog 12 #[] w fun e w' => e = .returned (.bool true) ∧ Below w.heap.size w w' := by
  go_enter Try.func12, Try.ntmps12
  go_wp2_with fail
  refine (sane1 _ _ (by simp)).mono ?_
  rintro e w1 ⟨rfl, rfl⟩
  go_wp2_with fail
  refine (sane2 _ _ (by simp)).mono ?_
  rintro e w1 ⟨rfl, rfl⟩
  go_wp2_with fail
  refine (sane3 _ _ (by simp)).mono ?_
  rintro e w1 ⟨rfl, rfl⟩
  go_wp2_with fail
  refine (sane4 _ _ (by simp)).mono ?_
  rintro e w1 ⟨rfl, rfl⟩
  go_wp2_with fail
  refine (sane5 _ _ (by simp)).mono ?_
  rintro e w5 ⟨a5, c5, rfl, i5, hb5⟩
  have I5 := Lib.hid i5
  have B5 := Lib.hid (show Below w.heap.size w w5 from Below.trans (by (repeat' (first | (with_reducible exact Below.refl _ _) | (with_reducible assumption) | (with_reducible refine Below.alloc ?_ ?_ _) | (with_reducible refine Below.drew ?_) | (with_reducible refine below_dn ?_) | (with_reducible refine Below.setCell ?_ ?_ _) | (with_reducible exact Nat.le_refl _) | omega | (simp only [World.size_alloc, World.size_setCell, World.size_drew]; omega) | (simp; omega) | (simp; done)))) (hb5.mono (by simp; omega)))
  clear i5 hb5
  go_wp2_with fail
  refine (sane6 _ _ (by simp)).mono ?_
  rintro e w6 ⟨a6, c6, rfl, hc6, b6, hb6⟩
  have hk6 := ba2 hb6 (by simp; omega)
  have I6 := Lib.hid (I5.out.mono hk6)
  have B6 := Lib.hid (bt B5.out hk6)
  have V6 := Lib.hid ((digs_new dg (by decide) (by decide) w5).mono (ba hb6 (by simp)))
  have HC6 := Lib.hid hc6
  have Y6 := Lib.hid b6
  clear hb6 hk6 hc6 b6 I5
  go_wp2_with fail
  refine (sane6b _ _ _ HC6.out Y6.out).mono ?_
  rintro e w7 ⟨a7, c7, rfl, g7, hk7⟩
  have I7 := Lib.hid (I6.out.mono hk7)
  have B7 := Lib.hid (bt B6.out hk7)
  have V7 := Lib.hid (V6.out.mono hk7)
  have G7 := Lib.hid g7
  clear hk7 g7 I6 V6 HC6 Y6 B6
  go_wp2_with fail
  refine (sane7 _ _ (by simp)).mono ?_
  rintro e w8 ⟨a8, c8, rfl, t8, hb8⟩
  have hk8 := ba hb8 (by simp)
  have I8 := Lib.hid (I7.out.mono hk8)
  have B8 := Lib.hid (bt B7.out hk8)
  have V8 := Lib.hid (V7.out.mono hk8)
  have G8 := Lib.hid (G7.out.mono hk8)
  have T8 := Lib.hid t8
  clear hb8 hk8 t8 I7 V7 G7 B7
  go_wp2_with fail
  refine (sameTexts_yes [{ data := #[] }, { data := #[97] }] a8 _ c8 2 _ (T8.out.mono ((Below.refl _ _).alloc (Nat.le_refl _) _)) (strs_newN [{ data := #[] }, { data := #[97] }] w8 _ rfl) (by decide)).mono ?_
  rintro e w9 ⟨rfl, hb9⟩
  have hk9 := ba hb9 (by simp)
  have I9 := Lib.hid (I8.out.mono hk9)
  have B9 := Lib.hid (bt B8.out hk9)
  have V9 := Lib.hid (V8.out.mono hk9)
  have G9 := Lib.hid (G8.out.mono hk9)
  clear hb9 hk9 I8 V8 G8 B8 T8
  go_wp2_with fail
  refine (sane8 _ _ (by simp)).mono ?_
  rintro e w10 ⟨a10, c10, rfl, -, b10, hb10⟩
  have hk10 := ba hb10 (by simp)
  have I10 := Lib.hid (I9.out.mono hk10)
  have B10 := Lib.hid (bt B9.out hk10)
  have V10 := Lib.hid (V9.out.mono hk10)
  have G10 := Lib.hid (G9.out.mono hk10)
  have Y10 := Lib.hid b10
  clear hb10 hk10 I9 V9 G9 B9 b10
  go_wp2_with fail
  refine (same_new [4, 0, 2, 97] (by decide) (by decide) a10 c10 4 rfl _ Y10.out _ (by simp)).mono ?_
  rintro e wx ⟨rfl, rfl⟩
  clear Y10
  go_wp2_with fail
  refine (sane9 _).mono ?_
  rintro e w11 ⟨a11, c11, rfl, -, b11, hb11⟩
  have hk11 := ba hb11 (by simp)
  have I11 := Lib.hid (I10.out.mono hk11)
  have B11 := Lib.hid (bt B10.out hk11)
  have V11 := Lib.hid (V10.out.mono hk11)
  have G11 := Lib.hid (G10.out.mono hk11)
  have Y11 := Lib.hid b11
  clear hb11 hk11 I10 V10 G10 B10 b11
  go_wp2_with fail
  refine (same_new [129, 1] (by decide) (by decide) a11 c11 2 rfl _ Y11.out _ (by simp)).mono ?_
  rintro e wx ⟨rfl, rfl⟩
  clear Y11
  go_wp2_with fail
  refine (sameInts_yes [1, -1] a5 _ c5 2 _ (I11.out.mono (((Below.refl _ _).alloc (Nat.le_refl _) _).alloc (by simp) _)) (ints_newN [1, -1] (by decide) (w11.alloc _) _ (by simp)) (by decide)).mono ?_
  rintro e w12 ⟨rfl, hb12⟩
  have hk12 := ba2 hb12 (by simp; omega)
  have B12 := Lib.hid (bt B11.out hk12)
  have V12 := Lib.hid (V11.out.mono hk12)
  have G12 := Lib.hid (G11.out.mono hk12)
  clear hb12 hk12 I11 V11 G11 B11
  go_wp2_with fail
  refine (sane10 _).mono ?_
  rintro e w13 ⟨a13, c13, rfl, -, b13, hk13⟩
  have B13 := Lib.hid (bt B12.out hk13)
  have V13 := Lib.hid (V12.out.mono hk13)
  have G13 := Lib.hid (G12.out.mono hk13)
  have Y13 := Lib.hid b13
  clear hk13 V12 G12 B12 b13
  go_wp2_with fail
  refine (same_new [4, 97, 98] (by decide) (by decide) a13 c13 3 rfl _ Y13.out _ (by simp)).mono ?_
  rintro e wx ⟨rfl, rfl⟩
  clear Y13
  go_wp2_with fail
  refine (sane11 (w13.alloc _) _ (by simp)).mono ?_
  rintro e w14 ⟨a14, c14, rfl, -, b14, hb14⟩
  have hk14 := ba2 hb14 (by simp; omega)
  have B14 := Lib.hid (bt B13.out hk14)
  have V14 := Lib.hid (V13.out.mono hk14)
  have G14 := Lib.hid (G13.out.mono hk14)
  have Y14 := Lib.hid b14
  clear hb14 hk14 V13 G13 B13 b14
  go_wp2_with fail
  refine (same_new [4, 2, 1] (by decide) (by decide) a14 c14 3 rfl _ Y14.out _ (by simp)).mono ?_
  rintro e wx ⟨rfl, hwx⟩
  have hkx : Below w14.heap.size w14 wx := by rw [hwx]; exact (Below.refl _ _).alloc (Nat.le_refl _) _
  have BX := Lib.hid (bt B14.out hkx)
  have VX := Lib.hid (V14.out.mono hkx)
  have GX := Lib.hid (G14.out.mono hkx)
  clear Y14 hwx hkx V14 G14 B14
  have q0 : wx.cell? ⟨w5.heap.size, 0, none⟩ = some (.int .u8 1) := digs_cell VX.out 0 (by decide)
  have q1 : wx.cell? ⟨w5.heap.size, 1, none⟩ = some (.int .u8 2) := digs_cell VX.out 1 (by decide)
  have q2 : wx.cell? ⟨w5.heap.size, 2, none⟩ = some (.int .u8 0) := digs_cell VX.out 2 (by decide)
  have q3 : wx.cell? ⟨w5.heap.size, 3, none⟩ = some (.int .u8 0) := digs_cell VX.out 3 (by decide)
  have q4 : wx.cell? ⟨w5.heap.size, 4, none⟩ = some (.int .u8 0) := digs_cell VX.out 4 (by decide)
  have q5 : wx.cell? ⟨w5.heap.size, 5, none⟩ = some (.int .u8 0) := digs_cell VX.out 5 (by decide)
  have q6 : wx.cell? ⟨w5.heap.size, 6, none⟩ = some (.int .u8 0) := digs_cell VX.out 6 (by decide)
  have q7 : wx.cell? ⟨w5.heap.size, 7, none⟩ = some (.int .u8 0) := digs_cell VX.out 7 (by decide)
  have q8 : wx.cell? ⟨w5.heap.size, 8, none⟩ = some (.int .u8 0) := digs_cell VX.out 8 (by decide)
  have q9 : wx.cell? ⟨w5.heap.size, 9, none⟩ = some (.int .u8 0) := digs_cell VX.out 9 (by decide)
  have q10 : wx.cell? ⟨w5.heap.size, 10, none⟩ = some (.int .u8 0) := digs_cell VX.out 10 (by decide)
  have q11 : wx.cell? ⟨w5.heap.size, 11, none⟩ = some (.int .u8 0) := digs_cell VX.out 11 (by decide)
  have q12 : wx.cell? ⟨w5.heap.size, 12, none⟩ = some (.int .u8 0) := digs_cell VX.out 12 (by decide)
  have q13 : wx.cell? ⟨w5.heap.size, 13, none⟩ = some (.int .u8 0) := digs_cell VX.out 13 (by decide)
  have q14 : wx.cell? ⟨w5.heap.size, 14, none⟩ = some (.int .u8 0) := digs_cell VX.out 14 (by decide)
  have q15 : wx.cell? ⟨w5.heap.size, 15, none⟩ = some (.int .u8 0) := digs_cell VX.out 15 (by decide)
  go_wp2_with fail
  refine (sameDigs_yes [dg] a7 _ c7 1 _ (GX.out.mono ((Below.refl _ _).alloc (Nat.le_refl _) _)) (digs_newN dg (by decide) (by decide) wx wx.heap.size rfl) (by decide)).mono ?_
  rintro e w15 ⟨rfl, hb15⟩
  have hk15 := ba hb15 (by simp)
  have B15 := Lib.hid (bt BX.out hk15)
  clear hb15 hk15 VX GX BX
  go_wp2
  go_ret
  exact ⟨rfl, B15.out⟩
end Go.Proofs.Ytlihndekeaefcaa
