import Derived.Test.YtcgdhankllphgaaRM2
import Derived.Deep.CutRange
namespace Go.Proofs.Ytcgdhankllphgaa
set_option linter.unusedVariables false
set_option linter.unusedSimpArgs false
set_option linter.unusedSectionVars false
open Go.RowKit
set_option maxRecDepth 100000 in
set_option maxHeartbeats 400000 in
theorem newbank_yes (cap len : Int) (w : World) (ok : OkB cap len []) :
    Calls Try.prog 9 #[.int .i64 cap, .int .i64 len] w fun e w' => e = .returned (.tuple #[.agg #[.int .i64 cap, .int .i64 len, .slice none 0 0], .int .i64 0]) ∧ Below w.heap.size w w' := by
  have C := Lib.hid (fun X : World => valid_yes ok none 0 X (RowsA.nil _ _ _ _))
  simp only [List.length_nil] at C
  clear ok
  go_enter Try.func9, Try.ntmps9
  go_wp2_with fail
  refine (C.out _).mono ?_
  rintro e w1 ⟨rfl, hb⟩
  have K1 := Lib.hid (show Blk w1 w.heap.size 24 #[.int .i64 0, .int .i64 0, .slice none 0 0] from ((Blk.new' w _ _ _ rfl rfl).alloc _).below hb (by simp; omega))
  have K2 := Lib.hid (show Blk w1 (w.heap.size + 1) 24 #[.int .i64 cap, .int .i64 len, .slice none 0 0] from (Blk.new' _ _ _ _ (World.size_alloc _ _) rfl).below hb (by simp))
  have B := Lib.hid (bt (show Below w.heap.size w ((w.alloc (.cells #[.int .i64 0, .int .i64 0, .slice none 0 0] 24)).alloc (.cells #[.int .i64 cap, .int .i64 len, .slice none 0 0] 24)) by (repeat' (first | (with_reducible exact Below.refl _ _) | (with_reducible assumption) | (with_reducible refine Below.alloc ?_ ?_ _) | (with_reducible refine Below.drew ?_) | (with_reducible refine below_dn ?_) | (with_reducible refine Below.setCell ?_ ?_ _) | (with_reducible exact Nat.le_refl _) | omega | (simp only [World.size_alloc, World.size_setCell, World.size_drew]; omega) | (simp; omega) | (simp; done)))) hb)
  obtain ⟨d0, d1, d2⟩ := three K1.out
  obtain ⟨h0, h1, h2⟩ := three K2.out
  have fz := fun q => K1.out.frozen q
  clear hb C
  go_wp2
  have K3 := Lib.hid (K1.out.set3 (.int .i64 cap) (.int .i64 len) (.slice none 0 0))
  have B3 := Lib.hid (below_set3 B.out (Nat.le_refl _) (.int .i64 cap) (.int .i64 len) (.slice none 0 0))
  simp only [set3] at K3 B3
  generalize hw2 : ((w1.setCell ⟨w.heap.size, 0, none⟩ (.int .i64 cap)).setCell ⟨w.heap.size, 1, none⟩ (.int .i64 len)).setCell ⟨w.heap.size, 2, none⟩ (.slice none 0 0) = w2 at K3 B3 ⊢
  clear hw2 d0 d1 d2 h0 h1 h2 fz K1 K2 B
  obtain ⟨d0, d1, d2⟩ := three K3.out
  refine bodyPost_ret (by simp [results, Try.results9, go_sem, d0, d1, d2]; try rfl) rfl ?_
  exact ⟨rfl, B3.out⟩
end Go.Proofs.Ytcgdhankllphgaa
