import Derived.Test.YteblnmhaohbkkaaDoorRLeW
import Derived.StillTactics
import Derived.WalkSpells
import Derived.Deep.QuietTactic
namespace Go.Proofs.YteblnmhaohbkkaaDoor
set_option linter.unusedVariables false
set_option linter.unusedSimpArgs false
set_option linter.unusedSectionVars false
namespace Le
open Go.RowKit
theorem twob {X : World} {g : Nat} {t : TypeId} {v0 v1 : Value} (h : Blk X g t #[v0, v1]) : X.cell? ⟨g, 0, none⟩ = some v0 ∧ X.cell? ⟨g, 1, none⟩ = some v1 := ⟨h.cell 0, h.cell 1⟩
abbrev per (lo hi : Int) : Value := .agg #[.int .i64 lo, .int .i64 hi]
def perB (lo hi : Int) : Bool := decide (0 ≤ lo ∧ lo ≤ hi ∧ hi ≤ 1099511627776)
theorem period_any (lo hi : Int) (w : World) : Calls Tryd.prog 30 #[per lo hi] w fun e w' => e = .returned (.bool (perB lo hi)) ∧ Below w.heap.size w w' := by
  go_enter Tryd.func30, Tryd.ntmps30
  go_wp2
  all_goals
    go_ret
    exact ⟨ret_bool (by unfold perB; first | (apply decide_eq_decide.mpr; omega) | (symm; apply decide_eq_true; omega) | (symm; apply decide_eq_false; omega)), by (repeat' (first | (with_reducible exact Below.refl _ _) | (with_reducible assumption) | (with_reducible refine Below.alloc ?_ ?_ _) | (with_reducible refine Below.drew ?_) | (with_reducible refine below_dn ?_) | (with_reducible refine Below.setCell ?_ ?_ _) | (with_reducible exact Nat.le_refl _) | omega | (simp only [World.size_alloc, World.size_setCell, World.size_drew]; omega) | (simp; omega) | (simp; done)))⟩
theorem before_any (lo hi t : Int) (w : World) : Calls Tryd.prog 51 #[per lo hi, .int .i64 t] w fun e w' => e = .returned (.bool (decide (hi < t))) ∧ Below w.heap.size w w' := by
  go_enter Tryd.func51, Tryd.ntmps51
  go_wp2
  go_ret
  exact ⟨rfl, by (repeat' (first | (with_reducible exact Below.refl _ _) | (with_reducible assumption) | (with_reducible refine Below.alloc ?_ ?_ _) | (with_reducible refine Below.drew ?_) | (with_reducible refine below_dn ?_) | (with_reducible refine Below.setCell ?_ ?_ _) | (with_reducible exact Nat.le_refl _) | omega | (simp only [World.size_alloc, World.size_setCell, World.size_drew]; omega) | (simp; omega) | (simp; done)))⟩
theorem rowL_site (n : Int) (l : List Gr) : (rowL n l).1 = n := by
  unfold rowL
  split
  · rename_i h; exact (has_yes h).2
  · rfl
theorem rowL_ok {la mo : Int} {l : List Gr} (ok : GsOk la mo l) {n : Int} (hn : 0 ≤ n ∧ n < 64) : rowOk la (rowL n l) := by
  unfold rowL
  split
  · rename_i h; exact ok.rows _ (has_yes h).1
  · exact ⟨hn, ⟨Int.le_refl 0, ok.la0.1⟩, Int.le_refl 0, show (0 : Int) ≤ 1099511627776 by omega⟩
def confR (n e : Int) (l : List Gr) : Gr := (n, max (rowL n l).2.1 e, (rowL n l).2.2)
def OkE (v : Value) (e : Int) : Value := .tuple #[v, .int .i64 e]
set_option maxRecDepth 100000 in
set_option maxHeartbeats 2000000 in
theorem new_ok (mo : Int) (w : World) (h : 1 ≤ mo ∧ mo ≤ 3600000) :
    Calls Tryd.prog 8 #[.int .i64 mo] w fun e w' => e = .returned (.tuple #[.agg #[.int .i64 0, .int .i64 mo, .slice none 0 0], .int .i64 0]) ∧ Below w.heap.size w w' := by
  have VA := Lib.hid (fun (X : World) => valid_any 0 mo none 0 [] X (RowsA.nil _ _ _ _) (by simp))
  have e1 : validB 0 mo [] = true := by exact decide_eq_true ⟨by omega, h, fun k hk => absurd hk (by simp), fun k hk => absurd hk (by simp)⟩
  rw [e1] at VA
  simp only [List.length_nil] at VA
  clear e1 h
  go_enter Tryd.func8, Tryd.ntmps8
  obtain ⟨G, hG⟩ : ∃ G, w.heap.size = G := ⟨_, rfl⟩
  have HG := Lib.hid hG
  obtain ⟨w0, hw0, Kr, B⟩ : ∃ X, (w.alloc (.cells #[.int .i64 0, .int .i64 0, .slice none 0 0] 24)) = X ∧ Hid (Blk X (G) 24 #[.int .i64 0, .int .i64 0, .slice none 0 0]) ∧ Hid (Below w.heap.size w X) := ⟨_, rfl, Lib.hid (Blk.new' _ _ _ _ hG rfl), Lib.hid (by (repeat' (first | (with_reducible exact Below.refl _ _) | (with_reducible assumption) | (with_reducible refine Below.alloc ?_ ?_ _) | (with_reducible refine Below.drew ?_) | (with_reducible refine below_dn ?_) | (with_reducible refine Below.setCell ?_ ?_ _) | (with_reducible exact Nat.le_refl _) | omega | (simp only [World.size_alloc, World.size_setCell, World.size_drew]; omega) | (simp; omega) | (simp; done))))⟩
  go_upto_region 1 with (fail)
  try rw [hG]
  try rw [hw0]
  clear hw0 hG
  obtain ⟨gx, hgx⟩ : ∃ G, w0.heap.size = G := ⟨_, rfl⟩
  have Kx := Lib.hid (show Blk (w0.alloc (.cells #[.int .i64 0, .int .i64 mo, .slice none 0 0] 24)) gx 24 #[.int .i64 0, .int .i64 mo, .slice none 0 0] from Blk.new' w0 _ _ _ hgx rfl)
  have Nrx := Lib.hid (show G < gx from by rw [← hgx]; exact Kr.out.lt)
  replace Kr := Lib.hid (Kr.out.alloc (.cells #[.int .i64 0, .int .i64 mo, .slice none 0 0] 24))
  have Lx := Lib.hid (show w.heap.size ≤ gx from by rw [← hgx]; exact B.out.size)
  replace B := Lib.hid (B.out.alloc B.out.size (.cells #[.int .i64 0, .int .i64 mo, .slice none 0 0] 24))
  go_upto_region 2 with (fail)
  try rw [hgx]
  generalize hw : w0.alloc (.cells #[.int .i64 0, .int .i64 mo, .slice none 0 0] 24) = w1 at Kr Kx  B ⊢
  clear hw hgx
  obtain ⟨brc0, brc1, brc2⟩ := three Kr.out
  obtain ⟨bxc0, bxc1, bxc2⟩ := three Kx.out
  have fzx := fun q => Kx.out.frozen q
  have fzr := fun q => Kr.out.frozen q
  go_wp2_with fail
  refine (VA.out _).mono ?_
  rintro e w2 ⟨rfl, hb⟩
  replace Kr := Lib.hid (Kr.out.below hb Kr.out.lt)
  replace Kx := Lib.hid (Kx.out.below hb Kx.out.lt)
  replace B := Lib.hid (B.out.trans (hb.mono B.out.size))
  clear brc0 brc1 brc2 bxc0 bxc1 bxc2 fzx fzr
  clear hb
  obtain ⟨brc0, brc1, brc2⟩ := three Kr.out
  obtain ⟨bxc0, bxc1, bxc2⟩ := three Kx.out
  clear brc0 brc1 brc2 bxc0 bxc1 bxc2
  obtain ⟨brc0, brc1, brc2⟩ := three Kr.out
  obtain ⟨bxc0, bxc1, bxc2⟩ := three Kx.out
  have fzx := fun q => Kx.out.frozen q
  have fzr := fun q => Kr.out.frozen q
  clear brc0 brc1 brc2 bxc0 bxc1 bxc2 fzx fzr
  obtain ⟨brc0, brc1, brc2⟩ := three Kr.out
  obtain ⟨bxc0, bxc1, bxc2⟩ := three Kx.out
  have fzr := fun q => Kr.out.frozen q
  replace Kr := Lib.hid (show Blk (w2.setCell ⟨G, 0, none⟩ (.int .i64 0)) (G) 24 #[.int .i64 0, .int .i64 0, .slice none 0 0] from Kr.out.set_ 0 (.int .i64 0))
  replace Kx := Lib.hid (show Blk (w2.setCell ⟨G, 0, none⟩ (.int .i64 0)) (gx) _ _ from Kx.out.far (p := ⟨G, 0, none⟩) (by have := Nrx.out; show gx ≠ G; omega) (.int .i64 0))
  replace B := Lib.hid (show Below w.heap.size w (w2.setCell ⟨G, 0, none⟩ (.int .i64 0)) from B.out.setCell (p := ⟨G, 0, none⟩) (show w.heap.size ≤ G by have := HG.out; omega) (.int .i64 0))
  replace Kr := Lib.hid (show Blk ((w2.setCell ⟨G, 0, none⟩ (.int .i64 0)).setCell ⟨G, 1, none⟩ (.int .i64 mo)) (G) 24 #[.int .i64 0, .int .i64 mo, .slice none 0 0] from Kr.out.set_ 1 (.int .i64 mo))
  replace Kx := Lib.hid (show Blk ((w2.setCell ⟨G, 0, none⟩ (.int .i64 0)).setCell ⟨G, 1, none⟩ (.int .i64 mo)) (gx) _ _ from Kx.out.far (p := ⟨G, 1, none⟩) (by have := Nrx.out; show gx ≠ G; omega) (.int .i64 mo))
  replace B := Lib.hid (show Below w.heap.size w ((w2.setCell ⟨G, 0, none⟩ (.int .i64 0)).setCell ⟨G, 1, none⟩ (.int .i64 mo)) from B.out.setCell (p := ⟨G, 1, none⟩) (show w.heap.size ≤ G by have := HG.out; omega) (.int .i64 mo))
  replace Kr := Lib.hid (show Blk (((w2.setCell ⟨G, 0, none⟩ (.int .i64 0)).setCell ⟨G, 1, none⟩ (.int .i64 mo)).setCell ⟨G, 2, none⟩ (.slice none 0 0)) (G) 24 #[.int .i64 0, .int .i64 mo, .slice none 0 0] from Kr.out.set_ 2 (.slice none 0 0))
  replace Kx := Lib.hid (show Blk (((w2.setCell ⟨G, 0, none⟩ (.int .i64 0)).setCell ⟨G, 1, none⟩ (.int .i64 mo)).setCell ⟨G, 2, none⟩ (.slice none 0 0)) (gx) _ _ from Kx.out.far (p := ⟨G, 2, none⟩) (by have := Nrx.out; show gx ≠ G; omega) (.slice none 0 0))
  replace B := Lib.hid (show Below w.heap.size w (((w2.setCell ⟨G, 0, none⟩ (.int .i64 0)).setCell ⟨G, 1, none⟩ (.int .i64 mo)).setCell ⟨G, 2, none⟩ (.slice none 0 0)) from B.out.setCell (p := ⟨G, 2, none⟩) (show w.heap.size ≤ G by have := HG.out; omega) (.slice none 0 0))
  go_wp2
  generalize hw : (((w2.setCell ⟨G, 0, none⟩ (.int .i64 0)).setCell ⟨G, 1, none⟩ (.int .i64 mo)).setCell ⟨G, 2, none⟩ (.slice none 0 0)) = w3 at Kr Kx B ⊢
  clear brc0 brc1 brc2 bxc0 bxc1 bxc2 fzr
  clear hw
  obtain ⟨d0, d1, d2⟩ := three Kr.out
  refine bodyPost_ret (by simp [results, Tryd.results8, go_sem, d0, d1, d2]; try rfl) rfl ?_
  exact ⟨rfl, B.out⟩
set_option maxRecDepth 100000 in
set_option maxHeartbeats 2000000 in
theorem issue_ok (la mo : Int) (a : Option Addr) (c : Nat) (l : List Gr) (w : World) (hp : GrA w a l) (hm : l.length ≤ 1000000) (ok : GsOk la mo l) (hl : ¬ la = 1099511627776) :
    Calls Tryd.prog 9 #[.agg #[.int .i64 la, .int .i64 mo, .slice a l.length c]] w fun e w' => (∃ a' c', e = .returned (.tuple #[.agg #[.int .i64 (la + 1), .int .i64 mo, .slice a' (l).length c'], .int .i64 0]) ∧ GrA w' a' (l) ∧ ∀ p, a' = some p → w.heap.size ≤ p.block) ∧ Below w.heap.size w w' := by
  have HP := Lib.hid hp
  have VA := Lib.hid (fun (X : World) (h : GrA X a l) => valid_any la mo a c l X h (by omega))
  have ev : validB la mo l = true := decide_eq_true ok
  rw [ev] at VA
  have hla := ok.la0
  have CL := Lib.hid (fun (X : World) (h : GrA X a l) => copied_any (la + 1) mo a c l X h (by have := ok.few; omega))
  obtain ⟨N, hN⟩ : ∃ N, l.length = N := ⟨_, rfl⟩
  have HE := Lib.hid hN
  simp only [hN] at VA CL
  rw [hN]
  have wl : IntKind.i64.wrap (la + 1) = la + 1 := by rw [IntKind.wrap_i64]; omega
  have t0 : (la == 1099511627776) = false := beq_eq_false_iff_ne.2 hl
  clear hp hN ev ok hm hl hla
  go_enter Tryd.func9, Tryd.ntmps9
  obtain ⟨G, hG⟩ : ∃ G, w.heap.size = G := ⟨_, rfl⟩
  have HG := Lib.hid hG
  obtain ⟨w0, hw0, Kg, Kr, B⟩ : ∃ X, ((w.alloc (.cells #[.int .i64 la, .int .i64 mo, .slice a N c] 24)).alloc (.cells #[.int .i64 0, .int .i64 0, .slice none 0 0] 24)) = X ∧ Hid (Blk X (G) 24 #[.int .i64 la, .int .i64 mo, .slice a N c]) ∧ Hid (Blk X (G + 1) 24 #[.int .i64 0, .int .i64 0, .slice none 0 0]) ∧ Hid (Below w.heap.size w X) := ⟨_, rfl, Lib.hid ((Blk.new' _ _ _ _ hG rfl).alloc _), Lib.hid (Blk.new' _ _ _ _ (by rw [World.size_alloc, hG]) rfl), Lib.hid (by (repeat' (first | (with_reducible exact Below.refl _ _) | (with_reducible assumption) | (with_reducible refine Below.alloc ?_ ?_ _) | (with_reducible refine Below.drew ?_) | (with_reducible refine below_dn ?_) | (with_reducible refine Below.setCell ?_ ?_ _) | (with_reducible exact Nat.le_refl _) | omega | (simp only [World.size_alloc, World.size_setCell, World.size_drew]; omega) | (simp; omega) | (simp; done))))⟩
  go_upto_region 1 with (fail)
  try rw [hG]
  try rw [hw0]
  clear hw0 hG
  obtain ⟨bgc0, bgc1, bgc2⟩ := three Kg.out
  obtain ⟨brc0, brc1, brc2⟩ := three Kr.out
  have fzg := fun q => Kg.out.frozen q
  have fzr := fun q => Kr.out.frozen q
  go_wp2_with fail
  refine (VA.out _ (HP.out.mono B.out)).mono ?_
  rintro e w1 ⟨rfl, hb⟩
  replace Kg := Lib.hid (Kg.out.below hb Kg.out.lt)
  replace Kr := Lib.hid (Kr.out.below hb Kr.out.lt)
  replace B := Lib.hid (B.out.trans (hb.mono B.out.size))
  clear bgc0 bgc1 bgc2 brc0 brc1 brc2 fzg fzr
  clear hb
  obtain ⟨bgc0, bgc1, bgc2⟩ := three Kg.out
  obtain ⟨brc0, brc1, brc2⟩ := three Kr.out
  clear bgc0 bgc1 bgc2 brc0 brc1 brc2
  obtain ⟨bgc0, bgc1, bgc2⟩ := three Kg.out
  obtain ⟨brc0, brc1, brc2⟩ := three Kr.out
  have fzg := fun q => Kg.out.frozen q
  have fzr := fun q => Kr.out.frozen q
  clear bgc0 bgc1 bgc2 brc0 brc1 brc2 fzg fzr
  obtain ⟨bgc0, bgc1, bgc2⟩ := three Kg.out
  obtain ⟨brc0, brc1, brc2⟩ := three Kr.out
  have fzg := fun q => Kg.out.frozen q
  replace Kg := Lib.hid (show Blk (w1.setCell ⟨G, 0, none⟩ (.int .i64 (la + 1))) (G) 24 #[.int .i64 (la + 1), .int .i64 mo, .slice a N c] from Kg.out.set_ 0 (.int .i64 (la + 1)))
  replace Kr := Lib.hid (show Blk (w1.setCell ⟨G, 0, none⟩ (.int .i64 (la + 1))) (G + 1) _ _ from Kr.out.far (p := ⟨G, 0, none⟩) (by simp; try omega) (.int .i64 (la + 1)))
  replace B := Lib.hid (show Below w.heap.size w (w1.setCell ⟨G, 0, none⟩ (.int .i64 (la + 1))) from B.out.setCell (p := ⟨G, 0, none⟩) (show w.heap.size ≤ G by have := HG.out; omega) (.int .i64 (la + 1)))
  go_upto_region 6 with (fail)
  generalize hw : (w1.setCell ⟨G, 0, none⟩ (.int .i64 (la + 1))) = w2 at Kg Kr B ⊢
  clear bgc0 bgc1 bgc2 brc0 brc1 brc2 fzg
  clear hw
  obtain ⟨bgc0, bgc1, bgc2⟩ := three Kg.out
  obtain ⟨brc0, brc1, brc2⟩ := three Kr.out
  have fzg := fun q => Kg.out.frozen q
  have fzr := fun q => Kr.out.frozen q
  go_wp2_with fail
  refine (CL.out _ (HP.out.mono B.out)).mono ?_
  rintro e w3 ⟨⟨a6, c6, Z6, rfl, ho, hz1, hz2⟩, hb⟩
  have H6 := Lib.hid (show G + 2 ≤ Z6 from Nat.le_trans (show G + 2 ≤ w2.heap.size by have := Kr.out.lt; omega) hz1)
  have Y6 := Lib.hid hz2
  have O6 := Lib.hid ho
  replace Kg := Lib.hid (Kg.out.below hb Kg.out.lt)
  replace Kr := Lib.hid (Kr.out.below hb Kr.out.lt)
  replace B := Lib.hid (B.out.trans (hb.mono B.out.size))
  clear bgc0 bgc1 bgc2 brc0 brc1 brc2 fzg fzr
  clear hb ho CL hz1 hz2
  obtain ⟨bgc0, bgc1, bgc2⟩ := three Kg.out
  obtain ⟨brc0, brc1, brc2⟩ := three Kr.out
  have fzg := fun q => Kg.out.frozen q
  have fzr := fun q => Kr.out.frozen q
  clear bgc0 bgc1 bgc2 brc0 brc1 brc2 fzg fzr
  obtain ⟨bgc0, bgc1, bgc2⟩ := three Kg.out
  obtain ⟨brc0, brc1, brc2⟩ := three Kr.out
  have fzr := fun q => Kr.out.frozen q
  replace O6 := Lib.hid (OwnR.far O6.out (p := ⟨G + 1, 0, none⟩) (show G + 1 < Z6 by have := H6.out; omega) (.int .i64 (la + 1)))
  replace Y6 := Lib.hid (show Z6 ≤ (w3.setCell ⟨G + 1, 0, none⟩ (.int .i64 (la + 1))).heap.size by have := Y6.out; simp only [World.size_setCell] at this ⊢; omega)
  replace Kr := Lib.hid (show Blk (w3.setCell ⟨G + 1, 0, none⟩ (.int .i64 (la + 1))) (G + 1) 24 #[.int .i64 (la + 1), .int .i64 0, .slice none 0 0] from Kr.out.set_ 0 (.int .i64 (la + 1)))
  replace Kg := Lib.hid (show Blk (w3.setCell ⟨G + 1, 0, none⟩ (.int .i64 (la + 1))) (G) _ _ from Kg.out.far (p := ⟨G + 1, 0, none⟩) (by simp; try omega) (.int .i64 (la + 1)))
  replace B := Lib.hid (show Below w.heap.size w (w3.setCell ⟨G + 1, 0, none⟩ (.int .i64 (la + 1))) from B.out.setCell (p := ⟨G + 1, 0, none⟩) (show w.heap.size ≤ G + 1 by have := HG.out; omega) (.int .i64 (la + 1)))
  replace O6 := Lib.hid (OwnR.far O6.out (p := ⟨G + 1, 1, none⟩) (show G + 1 < Z6 by have := H6.out; omega) (.int .i64 mo))
  replace Y6 := Lib.hid (show Z6 ≤ ((w3.setCell ⟨G + 1, 0, none⟩ (.int .i64 (la + 1))).setCell ⟨G + 1, 1, none⟩ (.int .i64 mo)).heap.size by have := Y6.out; simp only [World.size_setCell] at this ⊢; omega)
  replace Kr := Lib.hid (show Blk ((w3.setCell ⟨G + 1, 0, none⟩ (.int .i64 (la + 1))).setCell ⟨G + 1, 1, none⟩ (.int .i64 mo)) (G + 1) 24 #[.int .i64 (la + 1), .int .i64 mo, .slice none 0 0] from Kr.out.set_ 1 (.int .i64 mo))
  replace Kg := Lib.hid (show Blk ((w3.setCell ⟨G + 1, 0, none⟩ (.int .i64 (la + 1))).setCell ⟨G + 1, 1, none⟩ (.int .i64 mo)) (G) _ _ from Kg.out.far (p := ⟨G + 1, 1, none⟩) (by simp; try omega) (.int .i64 mo))
  replace B := Lib.hid (show Below w.heap.size w ((w3.setCell ⟨G + 1, 0, none⟩ (.int .i64 (la + 1))).setCell ⟨G + 1, 1, none⟩ (.int .i64 mo)) from B.out.setCell (p := ⟨G + 1, 1, none⟩) (show w.heap.size ≤ G + 1 by have := HG.out; omega) (.int .i64 mo))
  replace O6 := Lib.hid (OwnR.far O6.out (p := ⟨G + 1, 2, none⟩) (show G + 1 < Z6 by have := H6.out; omega) (.slice a6 N c6))
  replace Y6 := Lib.hid (show Z6 ≤ (((w3.setCell ⟨G + 1, 0, none⟩ (.int .i64 (la + 1))).setCell ⟨G + 1, 1, none⟩ (.int .i64 mo)).setCell ⟨G + 1, 2, none⟩ (.slice a6 N c6)).heap.size by have := Y6.out; simp only [World.size_setCell] at this ⊢; omega)
  replace Kr := Lib.hid (show Blk (((w3.setCell ⟨G + 1, 0, none⟩ (.int .i64 (la + 1))).setCell ⟨G + 1, 1, none⟩ (.int .i64 mo)).setCell ⟨G + 1, 2, none⟩ (.slice a6 N c6)) (G + 1) 24 #[.int .i64 (la + 1), .int .i64 mo, .slice a6 N c6] from Kr.out.set_ 2 (.slice a6 N c6))
  replace Kg := Lib.hid (show Blk (((w3.setCell ⟨G + 1, 0, none⟩ (.int .i64 (la + 1))).setCell ⟨G + 1, 1, none⟩ (.int .i64 mo)).setCell ⟨G + 1, 2, none⟩ (.slice a6 N c6)) (G) _ _ from Kg.out.far (p := ⟨G + 1, 2, none⟩) (by simp; try omega) (.slice a6 N c6))
  replace B := Lib.hid (show Below w.heap.size w (((w3.setCell ⟨G + 1, 0, none⟩ (.int .i64 (la + 1))).setCell ⟨G + 1, 1, none⟩ (.int .i64 mo)).setCell ⟨G + 1, 2, none⟩ (.slice a6 N c6)) from B.out.setCell (p := ⟨G + 1, 2, none⟩) (show w.heap.size ≤ G + 1 by have := HG.out; omega) (.slice a6 N c6))
  go_wp2
  generalize hw : (((w3.setCell ⟨G + 1, 0, none⟩ (.int .i64 (la + 1))).setCell ⟨G + 1, 1, none⟩ (.int .i64 mo)).setCell ⟨G + 1, 2, none⟩ (.slice a6 N c6)) = w4 at Kg Kr O6 Y6 B ⊢
  clear bgc0 bgc1 bgc2 brc0 brc1 brc2 fzr
  clear hw
  obtain ⟨d0, d1, d2⟩ := three Kr.out
  refine bodyPost_ret (by simp [results, Tryd.results9, go_sem, d0, d1, d2]; try rfl) rfl ?_
  exact ⟨⟨a6, c6, rfl, own_rows O6.out, fun p hp => by have := OwnR.block O6.out p hp; have := H6.out; have := HG.out; omega⟩, B.out⟩
set_option maxRecDepth 100000 in
set_option maxHeartbeats 2000000 in
theorem confirm_ok (la mo : Int) (a : Option Addr) (c : Nat) (l : List Gr) (n ep : Int) (w : World) (hp : GrA w a l) (hm : l.length ≤ 1000000) (ok : GsOk la mo l) (hs : 0 ≤ n ∧ n < 64) (he : 0 ≤ ep ∧ ep ≤ la) :
    Calls Tryd.prog 10 #[.agg #[.int .i64 la, .int .i64 mo, .slice a l.length c], .int .i64 n, .int .i64 ep] w fun e w' => (∃ a' c', e = .returned (.tuple #[.agg #[.int .i64 la, .int .i64 mo, .slice a' (withL (confR n ep l) l).length c'], .int .i64 0]) ∧ GrA w' a' (withL (confR n ep l) l) ∧ ∀ p, a' = some p → w.heap.size ≤ p.block) ∧ Below w.heap.size w w' := by
  have HP := Lib.hid hp
  have VA := Lib.hid (fun (X : World) (h : GrA X a l) => valid_any la mo a c l X h (by omega))
  have ev : validB la mo l = true := decide_eq_true ok
  rw [ev] at VA
  have IS := Lib.hid (fun (X : World) => isSite_yes hs X)
  have WI := Lib.hid (fun (X : World) => within_yes he X)
  have GO := Lib.hid (fun (X : World) (h : GrA X a l) => grantOf_any la mo a c l n X h ok.ord (by omega))
  have WT := Lib.hid (fun (X : World) (h : GrA X a l) => with_any la mo a c l (confR n ep l) X h ok.ord (by have := ok.few; omega))
  have RS := Lib.hid (rowL_site n l)
  have CR := Lib.hid (show confR n ep l = (n, max (rowL n l).2.1 ep, (rowL n l).2.2) from rfl)
  obtain ⟨N, hN⟩ : ∃ N, l.length = N := ⟨_, rfl⟩
  have HE := Lib.hid hN
  simp only [hN] at VA GO WT
  rw [hN]
  obtain ⟨L2, hL2⟩ : ∃ L2, withL (confR n ep l) l = L2 := ⟨_, rfl⟩
  rw [hL2]
  simp only [hL2] at WT
  rw [CR.out] at WT
  obtain ⟨⟨x1, x2, x3⟩, hx⟩ : ∃ x, rowL n l = x := ⟨_, rfl⟩
  rw [hx] at GO WT RS
  have e1 : x1 = n := RS.out
  subst e1
  simp only [encG] at GO WT
  have HMX := Lib.hid (show (Value.int .i64 (max x2 ep)) = .int .i64 (max x2 ep) from rfl)
  obtain ⟨m, hm2⟩ : ∃ m, max x2 ep = m := ⟨_, rfl⟩
  simp only [hm2] at WT
  clear hL2 hx CR RS HMX
  clear hp hN ev ok hm hs he
  go_enter Tryd.func10, Tryd.ntmps10
  obtain ⟨G, hG⟩ : ∃ G, w.heap.size = G := ⟨_, rfl⟩
  have HG := Lib.hid hG
  obtain ⟨w0, hw0, Kg, Kr, B⟩ : ∃ X, ((w.alloc (.cells #[.int .i64 la, .int .i64 mo, .slice a N c] 24)).alloc (.cells #[.int .i64 0, .int .i64 0, .slice none 0 0] 24)) = X ∧ Hid (Blk X (G) 24 #[.int .i64 la, .int .i64 mo, .slice a N c]) ∧ Hid (Blk X (G + 1) 24 #[.int .i64 0, .int .i64 0, .slice none 0 0]) ∧ Hid (Below w.heap.size w X) := ⟨_, rfl, Lib.hid ((Blk.new' _ _ _ _ hG rfl).alloc _), Lib.hid (Blk.new' _ _ _ _ (by rw [World.size_alloc, hG]) rfl), Lib.hid (by (repeat' (first | (with_reducible exact Below.refl _ _) | (with_reducible assumption) | (with_reducible refine Below.alloc ?_ ?_ _) | (with_reducible refine Below.drew ?_) | (with_reducible refine below_dn ?_) | (with_reducible refine Below.setCell ?_ ?_ _) | (with_reducible exact Nat.le_refl _) | omega | (simp only [World.size_alloc, World.size_setCell, World.size_drew]; omega) | (simp; omega) | (simp; done))))⟩
  go_upto_region 1 with (fail)
  try rw [hG]
  try rw [hw0]
  clear hw0 hG
  obtain ⟨bgc0, bgc1, bgc2⟩ := three Kg.out
  obtain ⟨brc0, brc1, brc2⟩ := three Kr.out
  have fzg := fun q => Kg.out.frozen q
  have fzr := fun q => Kr.out.frozen q
  go_wp2_with fail
  refine (VA.out _ (HP.out.mono B.out)).mono ?_
  rintro e w1 ⟨rfl, hb⟩
  replace Kg := Lib.hid (Kg.out.below hb Kg.out.lt)
  replace Kr := Lib.hid (Kr.out.below hb Kr.out.lt)
  replace B := Lib.hid (B.out.trans (hb.mono B.out.size))
  clear bgc0 bgc1 bgc2 brc0 brc1 brc2 fzg fzr
  clear hb
  obtain ⟨bgc0, bgc1, bgc2⟩ := three Kg.out
  obtain ⟨brc0, brc1, brc2⟩ := three Kr.out
  clear bgc0 bgc1 bgc2 brc0 brc1 brc2
  obtain ⟨bgc0, bgc1, bgc2⟩ := three Kg.out
  obtain ⟨brc0, brc1, brc2⟩ := three Kr.out
  have fzg := fun q => Kg.out.frozen q
  have fzr := fun q => Kr.out.frozen q
  go_wp2_with fail
  refine (IS.out _).mono ?_
  rintro e wz ⟨rfl, rfl⟩
  go_wp2_with fail
  refine (WI.out _).mono ?_
  rintro e wz ⟨rfl, rfl⟩
  go_wp2_with fail
  refine (GO.out _ (HP.out.mono B.out)).mono ?_
  rintro e w2 ⟨rfl, hb⟩
  replace Kg := Lib.hid (Kg.out.below hb Kg.out.lt)
  replace Kr := Lib.hid (Kr.out.below hb Kr.out.lt)
  replace B := Lib.hid (B.out.trans (hb.mono B.out.size))
  clear bgc0 bgc1 bgc2 brc0 brc1 brc2 fzg fzr
  clear hb
  obtain ⟨bgc0, bgc1, bgc2⟩ := three Kg.out
  obtain ⟨brc0, brc1, brc2⟩ := three Kr.out
  obtain ⟨gx, hgx⟩ : ∃ G, w2.heap.size = G := ⟨_, rfl⟩
  have Kx := Lib.hid (show Blk (w2.alloc (.cells #[.int .i64 x1, .int .i64 x2, .int .i64 x3] 88)) gx 88 #[.int .i64 x1, .int .i64 x2, .int .i64 x3] from Blk.new' w2 _ _ _ hgx rfl)
  have Ngx := Lib.hid (show G < gx from by rw [← hgx]; exact Kg.out.lt)
  replace Kg := Lib.hid (Kg.out.alloc (.cells #[.int .i64 x1, .int .i64 x2, .int .i64 x3] 88))
  have Nrx := Lib.hid (show G + 1 < gx from by rw [← hgx]; exact Kr.out.lt)
  replace Kr := Lib.hid (Kr.out.alloc (.cells #[.int .i64 x1, .int .i64 x2, .int .i64 x3] 88))
  have Lx := Lib.hid (show w.heap.size ≤ gx from by rw [← hgx]; exact B.out.size)
  replace B := Lib.hid (B.out.alloc B.out.size (.cells #[.int .i64 x1, .int .i64 x2, .int .i64 x3] 88))
  go_upto_region 4 with (fail)
  try rw [hgx]
  generalize hw : w2.alloc (.cells #[.int .i64 x1, .int .i64 x2, .int .i64 x3] 88) = w3 at Kg Kr Kx  B ⊢
  clear bgc0 bgc1 bgc2 brc0 brc1 brc2
  clear hw hgx
  obtain ⟨bgc0, bgc1, bgc2⟩ := three Kg.out
  obtain ⟨brc0, brc1, brc2⟩ := three Kr.out
  obtain ⟨bxc0, bxc1, bxc2⟩ := three Kx.out
  have fzg := fun q => Kg.out.frozen q
  have fzr := fun q => Kr.out.frozen q
  have fzx := fun q => Kx.out.frozen q
  clear bgc0 bgc1 bgc2 brc0 brc1 brc2 bxc0 bxc1 bxc2 fzg fzr fzx
  obtain ⟨bgc0, bgc1, bgc2⟩ := three Kg.out
  obtain ⟨brc0, brc1, brc2⟩ := three Kr.out
  obtain ⟨bxc0, bxc1, bxc2⟩ := three Kx.out
  have fzx := fun q => Kx.out.frozen q
  replace Kx := Lib.hid (show Blk (w3.setCell ⟨gx, 1, none⟩ (.int .i64 m)) (gx) 88 #[.int .i64 x1, .int .i64 m, .int .i64 x3] from Kx.out.set_ 1 (.int .i64 m))
  replace Kg := Lib.hid (show Blk (w3.setCell ⟨gx, 1, none⟩ (.int .i64 m)) (G) _ _ from Kg.out.far (p := ⟨gx, 1, none⟩) (by have := Ngx.out; show G ≠ gx; omega) (.int .i64 m))
  replace Kr := Lib.hid (show Blk (w3.setCell ⟨gx, 1, none⟩ (.int .i64 m)) (G + 1) _ _ from Kr.out.far (p := ⟨gx, 1, none⟩) (by have := Nrx.out; show G + 1 ≠ gx; omega) (.int .i64 m))
  replace B := Lib.hid (show Below w.heap.size w (w3.setCell ⟨gx, 1, none⟩ (.int .i64 m)) from B.out.setCell (p := ⟨gx, 1, none⟩) Lx.out (.int .i64 m))
  go_upto_region 5 with (fail)
  generalize hw : (w3.setCell ⟨gx, 1, none⟩ (.int .i64 m)) = w4 at Kg Kr Kx B ⊢
  clear bgc0 bgc1 bgc2 brc0 brc1 brc2 bxc0 bxc1 bxc2 fzx
  clear hw
  clear hm2
  obtain ⟨bgc0, bgc1, bgc2⟩ := three Kg.out
  obtain ⟨brc0, brc1, brc2⟩ := three Kr.out
  obtain ⟨bxc0, bxc1, bxc2⟩ := three Kx.out
  have fzg := fun q => Kg.out.frozen q
  have fzr := fun q => Kr.out.frozen q
  have fzx := fun q => Kx.out.frozen q
  go_wp2_with fail
  refine (WT.out _ (HP.out.mono B.out)).mono ?_
  rintro e w5 ⟨⟨a6, c6, rfl, hr, hf⟩, hb⟩
  have F6 := Lib.hid hf
  have Q6 := Lib.hid hr
  have QZ := Lib.hid Kr.out.lt
  have QG := Lib.hid Kx.out.lt
  replace Kg := Lib.hid (Kg.out.below hb Kg.out.lt)
  replace Kr := Lib.hid (Kr.out.below hb Kr.out.lt)
  replace Kx := Lib.hid (Kx.out.below hb Kx.out.lt)
  replace B := Lib.hid (B.out.trans (hb.mono B.out.size))
  clear bgc0 bgc1 bgc2 brc0 brc1 brc2 bxc0 bxc1 bxc2 fzg fzr fzx
  clear hb hf hr WT
  have FR := Lib.hid (show ∀ p, a6 = some p → p.block ≠ G + 1 ∧ w.heap.size ≤ p.block from fun p hp => by have h1 := F6.out p hp; have h2 := QZ.out; have := HG.out; exact ⟨by omega, by omega⟩)
  clear F6 QZ QG
  obtain ⟨bgc0, bgc1, bgc2⟩ := three Kg.out
  obtain ⟨brc0, brc1, brc2⟩ := three Kr.out
  obtain ⟨bxc0, bxc1, bxc2⟩ := three Kx.out
  have fzg := fun q => Kg.out.frozen q
  have fzr := fun q => Kr.out.frozen q
  replace Q6 := Lib.hid (RowsA.far Q6.out (p := ⟨G + 1, 0, none⟩) (fun q hq => (FR.out q hq).1) (.int .i64 la))
  replace Q6 := Lib.hid (RowsA.far Q6.out (p := ⟨G + 1, 1, none⟩) (fun q hq => (FR.out q hq).1) (.int .i64 mo))
  replace Q6 := Lib.hid (RowsA.far Q6.out (p := ⟨G + 1, 2, none⟩) (fun q hq => (FR.out q hq).1) (.slice a6 L2.length c6))
  clear bgc0 bgc1 bgc2 brc0 brc1 brc2 bxc0 bxc1 bxc2 fzg fzr
  obtain ⟨bgc0, bgc1, bgc2⟩ := three Kg.out
  obtain ⟨brc0, brc1, brc2⟩ := three Kr.out
  obtain ⟨bxc0, bxc1, bxc2⟩ := three Kx.out
  have fzr := fun q => Kr.out.frozen q
  replace Kr := Lib.hid (show Blk (w5.setCell ⟨G + 1, 0, none⟩ (.int .i64 la)) (G + 1) 24 #[.int .i64 la, .int .i64 0, .slice none 0 0] from Kr.out.set_ 0 (.int .i64 la))
  replace Kg := Lib.hid (show Blk (w5.setCell ⟨G + 1, 0, none⟩ (.int .i64 la)) (G) _ _ from Kg.out.far (p := ⟨G + 1, 0, none⟩) (by simp; try omega) (.int .i64 la))
  replace Kx := Lib.hid (show Blk (w5.setCell ⟨G + 1, 0, none⟩ (.int .i64 la)) (gx) _ _ from Kx.out.far (p := ⟨G + 1, 0, none⟩) (by have := Nrx.out; show gx ≠ G + 1; omega) (.int .i64 la))
  replace B := Lib.hid (show Below w.heap.size w (w5.setCell ⟨G + 1, 0, none⟩ (.int .i64 la)) from B.out.setCell (p := ⟨G + 1, 0, none⟩) (show w.heap.size ≤ G + 1 by have := HG.out; omega) (.int .i64 la))
  replace Kr := Lib.hid (show Blk ((w5.setCell ⟨G + 1, 0, none⟩ (.int .i64 la)).setCell ⟨G + 1, 1, none⟩ (.int .i64 mo)) (G + 1) 24 #[.int .i64 la, .int .i64 mo, .slice none 0 0] from Kr.out.set_ 1 (.int .i64 mo))
  replace Kg := Lib.hid (show Blk ((w5.setCell ⟨G + 1, 0, none⟩ (.int .i64 la)).setCell ⟨G + 1, 1, none⟩ (.int .i64 mo)) (G) _ _ from Kg.out.far (p := ⟨G + 1, 1, none⟩) (by simp; try omega) (.int .i64 mo))
  replace Kx := Lib.hid (show Blk ((w5.setCell ⟨G + 1, 0, none⟩ (.int .i64 la)).setCell ⟨G + 1, 1, none⟩ (.int .i64 mo)) (gx) _ _ from Kx.out.far (p := ⟨G + 1, 1, none⟩) (by have := Nrx.out; show gx ≠ G + 1; omega) (.int .i64 mo))
  replace B := Lib.hid (show Below w.heap.size w ((w5.setCell ⟨G + 1, 0, none⟩ (.int .i64 la)).setCell ⟨G + 1, 1, none⟩ (.int .i64 mo)) from B.out.setCell (p := ⟨G + 1, 1, none⟩) (show w.heap.size ≤ G + 1 by have := HG.out; omega) (.int .i64 mo))
  replace Kr := Lib.hid (show Blk (((w5.setCell ⟨G + 1, 0, none⟩ (.int .i64 la)).setCell ⟨G + 1, 1, none⟩ (.int .i64 mo)).setCell ⟨G + 1, 2, none⟩ (.slice a6 L2.length c6)) (G + 1) 24 #[.int .i64 la, .int .i64 mo, .slice a6 L2.length c6] from Kr.out.set_ 2 (.slice a6 L2.length c6))
  replace Kg := Lib.hid (show Blk (((w5.setCell ⟨G + 1, 0, none⟩ (.int .i64 la)).setCell ⟨G + 1, 1, none⟩ (.int .i64 mo)).setCell ⟨G + 1, 2, none⟩ (.slice a6 L2.length c6)) (G) _ _ from Kg.out.far (p := ⟨G + 1, 2, none⟩) (by simp; try omega) (.slice a6 L2.length c6))
  replace Kx := Lib.hid (show Blk (((w5.setCell ⟨G + 1, 0, none⟩ (.int .i64 la)).setCell ⟨G + 1, 1, none⟩ (.int .i64 mo)).setCell ⟨G + 1, 2, none⟩ (.slice a6 L2.length c6)) (gx) _ _ from Kx.out.far (p := ⟨G + 1, 2, none⟩) (by have := Nrx.out; show gx ≠ G + 1; omega) (.slice a6 L2.length c6))
  replace B := Lib.hid (show Below w.heap.size w (((w5.setCell ⟨G + 1, 0, none⟩ (.int .i64 la)).setCell ⟨G + 1, 1, none⟩ (.int .i64 mo)).setCell ⟨G + 1, 2, none⟩ (.slice a6 L2.length c6)) from B.out.setCell (p := ⟨G + 1, 2, none⟩) (show w.heap.size ≤ G + 1 by have := HG.out; omega) (.slice a6 L2.length c6))
  go_wp2
  generalize hw : (((w5.setCell ⟨G + 1, 0, none⟩ (.int .i64 la)).setCell ⟨G + 1, 1, none⟩ (.int .i64 mo)).setCell ⟨G + 1, 2, none⟩ (.slice a6 L2.length c6)) = w6 at Kg Kr Kx B Q6 ⊢
  clear bgc0 bgc1 bgc2 brc0 brc1 brc2 bxc0 bxc1 bxc2 fzr
  clear hw
  obtain ⟨d0, d1, d2⟩ := three Kr.out
  refine bodyPost_ret (by simp [results, Tryd.results10, go_sem, d0, d1, d2]; try rfl) rfl ?_
  exact ⟨⟨a6, c6, rfl, Q6.out, fun p hp => (FR.out p hp).2⟩, B.out⟩
end Le
end Go.Proofs.YteblnmhaohbkkaaDoor
