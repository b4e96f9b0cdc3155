/- The examples of the chapter hold (sanity). -/
import Derived.Test.YtjmegfejnocegaaY
namespace Go.Proofs.Ytjmegfejnocegaa
set_option linter.unusedVariables false
set_option linter.unusedSimpArgs false
open Go.RowKit
def exC : Array Value := #[.int .i64 1, .int .i64 10, .int .i64 1, .int .i64 3, .int .i64 2, .int .i64 20]
theorem exC_sh {W : World} {g : Nat} (h : Blk W g 32 exC) : ShA W (some ⟨g, 0, none⟩) exL := RowS.sh (show Blk W g _ (exL.flatMap encS).toArray from h)
set_option maxRecDepth 100000 in
set_option maxHeartbeats 1000000 in
theorem sane (w : World) : Calls Try.prog 9 #[] w fun e w' => e = .returned (.bool true) ∧ Below w.heap.size w w' := by
  have KL := Lib.hid (show Blk (w.alloc (.cells #[.int .i64 1, .int .i64 10, .int .i64 1, .int .i64 3, .int .i64 2, .int .i64 20] 32)) w.heap.size 32 exC from Blk.new w _ _)
  have B0 := Lib.hid (show Below w.heap.size w (w.alloc (.cells #[.int .i64 1, .int .i64 10, .int .i64 1, .int .i64 3, .int .i64 2, .int .i64 20] 32)) from (Below.refl _ _).alloc (Nat.le_refl _) _)
  go_enter Try.func9, Try.ntmps9
  go_wp2_with fail
  refine (c_lev1 _ _ (exC_sh KL.out)).mono ?_
  rintro e w1 ⟨rfl, hb⟩
  replace B0 := Lib.hid (show Below w.heap.size w w1 from bt B0.out hb)
  replace KL := Lib.hid (KL.out.below hb KL.out.lt)
  clear hb
  go_wp2_with fail
  refine (c_fair _ _ (exC_sh KL.out)).mono ?_
  rintro e w2 ⟨g2, rfl, h2, hb⟩
  replace B0 := Lib.hid (show Below w.heap.size w w2 from bt B0.out hb)
  replace KL := Lib.hid (KL.out.below hb KL.out.lt)
  have H2 := Lib.hid h2
  clear hb h2
  go_wp2_with fail
  refine (c_same _ _ _ (H2.out.mono (by (repeat' (first | (with_reducible exact Below.refl _ _) | (with_reducible assumption) | (with_reducible refine Below.alloc ?_ ?_ _) | (with_reducible refine Below.drew ?_) | (with_reducible refine below_dn ?_) | (with_reducible refine Below.setCell ?_ ?_ _) | (with_reducible exact Nat.le_refl _) | omega | (simp only [World.size_alloc, World.size_setCell, World.size_drew]; omega) | (simp; omega) | (simp; done))))) (Blk.new _ _ _)).mono ?_
  rintro e w3 ⟨rfl, hb⟩
  replace B0 := Lib.hid (show Below w.heap.size w w3 from bt (B0.out.alloc B0.out.size _) hb)
  replace KL := Lib.hid ((KL.out.alloc _).below hb (KL.out.alloc _).lt)
  clear hb H2
  go_wp2_with fail
  refine (c_lev2 _ _ (exC_sh KL.out)).mono ?_
  rintro e w4 ⟨rfl, hb⟩
  replace B0 := Lib.hid (show Below w.heap.size w w4 from bt B0.out hb)
  replace KL := Lib.hid (KL.out.below hb KL.out.lt)
  clear hb
  go_wp2_with fail
  refine (c_val _ _ (exC_sh KL.out)).mono ?_
  rintro e w5 ⟨rfl, hb⟩
  replace B0 := Lib.hid (show Below w.heap.size w w5 from bt B0.out hb)
  replace KL := Lib.hid (KL.out.below hb KL.out.lt)
  clear hb
  go_wp2_with fail
  refine (c_exp _ _ _ 4 3 9 true (exC_sh (KL.out.alloc _)) (Blk.new _ _ _) (by decide)).mono ?_
  rintro e w6 ⟨rfl, hb⟩
  replace B0 := Lib.hid (show Below w.heap.size w w6 from bt (B0.out.alloc B0.out.size _) hb)
  replace KL := Lib.hid ((KL.out.alloc _).below hb (KL.out.alloc _).lt)
  clear hb
  go_wp2_with fail
  refine (c_exp _ _ _ 5 3 8 true (exC_sh (KL.out.alloc _)) (Blk.new _ _ _) (by decide)).mono ?_
  rintro e w7 ⟨rfl, hb⟩
  replace B0 := Lib.hid (show Below w.heap.size w w7 from bt (B0.out.alloc B0.out.size _) hb)
  replace KL := Lib.hid ((KL.out.alloc _).below hb (KL.out.alloc _).lt)
  clear hb
  go_wp2_with fail
  refine (c_exp _ _ _ 6 3 7 false (exC_sh (KL.out.alloc _)) (Blk.new _ _ _) (by decide)).mono ?_
  rintro e w8 ⟨rfl, hb⟩
  replace B0 := Lib.hid (show Below w.heap.size w w8 from bt (B0.out.alloc B0.out.size _) hb)
  clear hb KL
  go_wp2_with fail
  refine (c_open1 _).mono ?_
  rintro e w9 ⟨b9, c9, rfl, h9, hb⟩
  replace B0 := Lib.hid (show Below w.heap.size w w9 from bt B0.out hb)
  have H9 := Lib.hid h9
  clear hb h9
  go_wp2_with fail
  refine (c_open2 _ _ _ H9.out).mono ?_
  rintro e w10 ⟨b10, c10, rfl, h9, hb⟩
  replace B0 := Lib.hid (show Below w.heap.size w w10 from bt B0.out hb)
  replace H9 := Lib.hid h9
  clear hb h9
  go_wp2_with fail
  refine (c_use1 _ _ _ H9.out).mono ?_
  rintro e w11 ⟨b11, c11, rfl, h9, hb⟩
  replace B0 := Lib.hid (show Below w.heap.size w w11 from bt B0.out hb)
  replace H9 := Lib.hid h9
  clear hb h9
  go_wp2_with fail
  refine (c_use2 _ _ _ H9.out).mono ?_
  rintro e w12 ⟨b12, c12, rfl, h9, hb⟩
  replace B0 := Lib.hid (show Below w.heap.size w w12 from bt B0.out hb)
  replace H9 := Lib.hid h9
  clear hb h9
  go_wp2_with fail
  refine (c_vict1 _ _ _ H9.out).mono ?_
  rintro e w13 ⟨rfl, hb⟩
  replace B0 := Lib.hid (show Below w.heap.size w w13 from bt B0.out hb)
  replace H9 := Lib.hid (H9.out.mono hb)
  clear hb
  go_wp2_with fail
  refine (c_vict2 _ _ _ H9.out).mono ?_
  rintro e w14 ⟨rfl, hb⟩
  replace B0 := Lib.hid (show Below w.heap.size w w14 from bt B0.out hb)
  replace H9 := Lib.hid (H9.out.mono hb)
  clear hb
  go_wp2_with fail
  refine (c_acc _ _ _ H9.out).mono ?_
  rintro e w15 ⟨rfl, hb⟩
  replace B0 := Lib.hid (show Below w.heap.size w w15 from bt B0.out hb)
  replace H9 := Lib.hid (H9.out.mono hb)
  clear hb
  go_wp2_with fail
  refine (c_tot _ _ _ H9.out).mono ?_
  rintro e w16 ⟨rfl, hb⟩
  replace B0 := Lib.hid (show Below w.heap.size w w16 from bt B0.out hb)
  clear hb H9
  go_wp2
  go_ret
  exact ⟨rfl, B0.out⟩
end Go.Proofs.Ytjmegfejnocegaa
