/- Contracts: New, Issue, Confirm, Deadline and Waiting of the specification. -/
import Derived.Test.YteblnmhaohbkkaaDoorRLeZ
import Derived.Test.YteblnmhaohbkkaaDoorRLeR
import Derived.Test.YteblnmhaohbkkaaDoorRLeD
namespace Go.Proofs.YteblnmhaohbkkaaDoor
set_option linter.unusedVariables false
set_option linter.unusedSimpArgs false
namespace Le
open Go.RowKit Go.Sort
theorem four {X : World} {g : Nat} {t : TypeId} {v0 v1 v2 v3 : Value} (h : Blk X g t #[v0, v1, v2, v3]) : X.cell? ⟨g, 0, none⟩ = some v0 ∧ X.cell? ⟨g, 1, none⟩ = some v1 ∧ X.cell? ⟨g, 2, none⟩ = some v2 ∧ X.cell? ⟨g, 3, none⟩ = some v3 := ⟨h.cell 0, h.cell 1, h.cell 2, h.cell 3⟩
theorem with_self (n : Int) (l : List Gr) : withL (rowL n l) l = l := by
  unfold withL
  rw [rowL_site]
  by_cases h : hasG n l = true
  · rw [if_pos h]
    unfold rowL
    rw [if_pos h]
    have h1 := (has_yes h).1
    rw [List.getD_eq_getElem?_getD, List.getElem?_eq_getElem h1]
    simp
  · rw [if_neg h]
    unfold rowL
    rw [if_neg h, if_pos rfl]
theorem put_with {l : List Gr} (ord : OrdG l) (x : Gr) (h : ¬ x = (x.1, 0, 0)) : putL l x = withL x l := by
  rw [putL_is ord]
  unfold withL
  rw [if_neg h]
set_option maxRecDepth 100000 in
set_option maxHeartbeats 2000000 in
theorem rnew_ok (mo : Int) (w : World) (h : 1 ≤ mo ∧ mo ≤ 3600000) :
    Calls Tryd.prog 14 #[.int .i64 mo] w fun e w' => e = .returned (.agg #[.int .i64 0, .int .i64 mo, .slice none 0 0, .int .i64 0]) ∧ Below w.heap.size w w' := by
  have ev : validB 0 mo [] = true := decide_eq_true ⟨by omega, h, fun k hk => absurd hk (by simp), fun i hi => absurd hi (by simp)⟩
  have VA := Lib.hid (fun (X : World) => rvalid_any 0 mo none 0 [] X (RowsA.nil _ _ _ _) (by simp))
  rw [ev] at VA
  clear ev h
  go_enter Tryd.func14, Tryd.ntmps14
  obtain ⟨G, hG⟩ : ∃ G, w.heap.size = G := ⟨_, rfl⟩
  have HG := Lib.hid hG
  obtain ⟨w0, hw0, Kr, B⟩ : ∃ X, (w.alloc (.cells #[.int .i64 0, .int .i64 0, .slice none 0 0, .int .i64 0] 47)) = X ∧ Hid (Blk X (G) 47 #[.int .i64 0, .int .i64 0, .slice none 0 0, .int .i64 0]) ∧ Hid (Below w.heap.size w X) := ⟨_, rfl, Lib.hid (Blk.new' _ _ _ _ hG rfl), Lib.hid (by (repeat' (first | (with_reducible exact Below.refl _ _) | (with_reducible assumption) | (with_reducible refine Below.alloc ?_ ?_ _) | (with_reducible refine Below.drew ?_) | (with_reducible refine below_dn ?_) | (with_reducible refine Below.setCell ?_ ?_ _) | (with_reducible exact Nat.le_refl _) | omega | (simp only [World.size_alloc, World.size_setCell, World.size_drew]; omega) | (simp; omega) | (simp; done))))⟩
  go_upto_region 1 with (fail)
  try rw [hG]
  try rw [hw0]
  clear hw0 hG
  obtain ⟨brc0, brc1, brc2, brc3⟩ := four Kr.out
  obtain ⟨gg, hgg⟩ : ∃ G, w0.heap.size = G := ⟨_, rfl⟩
  have Kg := Lib.hid (show Blk (w0.alloc (.cells #[.int .i64 0, .int .i64 mo, .slice none 0 0] 24)) gg 24 #[.int .i64 0, .int .i64 mo, .slice none 0 0] from Blk.new' w0 _ _ _ hgg rfl)
  have Nrg := Lib.hid (show G < gg from by rw [← hgg]; exact Kr.out.lt)
  replace Kr := Lib.hid (Kr.out.alloc (.cells #[.int .i64 0, .int .i64 mo, .slice none 0 0] 24))
  have Lg := Lib.hid (show w.heap.size ≤ gg from by rw [← hgg]; exact B.out.size)
  replace B := Lib.hid (B.out.alloc B.out.size (.cells #[.int .i64 0, .int .i64 mo, .slice none 0 0] 24))
  go_upto_region 2 with (fail)
  try rw [hgg]
  generalize hw : w0.alloc (.cells #[.int .i64 0, .int .i64 mo, .slice none 0 0] 24) = w1 at Kr Kg  B ⊢
  clear brc0 brc1 brc2 brc3
  clear hw hgg
  obtain ⟨brc0, brc1, brc2, brc3⟩ := four Kr.out
  obtain ⟨bgc0, bgc1, bgc2⟩ := three Kg.out
  go_wp2_with fail
  refine (VA.out _).mono ?_
  rintro e w2 ⟨rfl, hb⟩
  replace Kr := Lib.hid (Kr.out.below hb Kr.out.lt)
  replace Kg := Lib.hid (Kg.out.below hb Kg.out.lt)
  replace B := Lib.hid (B.out.trans (hb.mono B.out.size))
  clear brc0 brc1 brc2 brc3 bgc0 bgc1 bgc2
  clear hb
  obtain ⟨brc0, brc1, brc2, brc3⟩ := four Kr.out
  obtain ⟨bgc0, bgc1, bgc2⟩ := three Kg.out
  clear brc0 brc1 brc2 brc3 bgc0 bgc1 bgc2
  obtain ⟨brc0, brc1, brc2, brc3⟩ := four Kr.out
  obtain ⟨bgc0, bgc1, bgc2⟩ := three Kg.out
  clear brc0 brc1 brc2 brc3 bgc0 bgc1 bgc2
  obtain ⟨brc0, brc1, brc2, brc3⟩ := four Kr.out
  obtain ⟨bgc0, bgc1, bgc2⟩ := three Kg.out
  have fzr := fun q => Kr.out.frozen q
  replace Kr := Lib.hid (show Blk (w2.setCell ⟨G, 0, none⟩ (.int .i64 0)) (G) 47 #[.int .i64 0, .int .i64 0, .slice none 0 0, .int .i64 0] from Kr.out.set_ 0 (.int .i64 0))
  replace B := Lib.hid (show Below w.heap.size w (w2.setCell ⟨G, 0, none⟩ (.int .i64 0)) from B.out.setCell (p := ⟨G, 0, none⟩) (show w.heap.size ≤ G by have := HG.out; omega) (.int .i64 0))
  replace Kr := Lib.hid (show Blk ((w2.setCell ⟨G, 0, none⟩ (.int .i64 0)).setCell ⟨G, 1, none⟩ (.int .i64 mo)) (G) 47 #[.int .i64 0, .int .i64 mo, .slice none 0 0, .int .i64 0] from Kr.out.set_ 1 (.int .i64 mo))
  replace B := Lib.hid (show Below w.heap.size w ((w2.setCell ⟨G, 0, none⟩ (.int .i64 0)).setCell ⟨G, 1, none⟩ (.int .i64 mo)) from B.out.setCell (p := ⟨G, 1, none⟩) (show w.heap.size ≤ G by have := HG.out; omega) (.int .i64 mo))
  replace Kr := Lib.hid (show Blk (((w2.setCell ⟨G, 0, none⟩ (.int .i64 0)).setCell ⟨G, 1, none⟩ (.int .i64 mo)).setCell ⟨G, 2, none⟩ (.slice none 0 0)) (G) 47 #[.int .i64 0, .int .i64 mo, .slice none 0 0, .int .i64 0] from Kr.out.set_ 2 (.slice none 0 0))
  replace B := Lib.hid (show Below w.heap.size w (((w2.setCell ⟨G, 0, none⟩ (.int .i64 0)).setCell ⟨G, 1, none⟩ (.int .i64 mo)).setCell ⟨G, 2, none⟩ (.slice none 0 0)) from B.out.setCell (p := ⟨G, 2, none⟩) (show w.heap.size ≤ G by have := HG.out; omega) (.slice none 0 0))
  replace Kr := Lib.hid (show Blk ((((w2.setCell ⟨G, 0, none⟩ (.int .i64 0)).setCell ⟨G, 1, none⟩ (.int .i64 mo)).setCell ⟨G, 2, none⟩ (.slice none 0 0)).setCell ⟨G, 3, none⟩ (.int .i64 0)) (G) 47 #[.int .i64 0, .int .i64 mo, .slice none 0 0, .int .i64 0] from Kr.out.set_ 3 (.int .i64 0))
  replace B := Lib.hid (show Below w.heap.size w ((((w2.setCell ⟨G, 0, none⟩ (.int .i64 0)).setCell ⟨G, 1, none⟩ (.int .i64 mo)).setCell ⟨G, 2, none⟩ (.slice none 0 0)).setCell ⟨G, 3, none⟩ (.int .i64 0)) from B.out.setCell (p := ⟨G, 3, none⟩) (show w.heap.size ≤ G by have := HG.out; omega) (.int .i64 0))
  go_wp2
  generalize hw : ((((w2.setCell ⟨G, 0, none⟩ (.int .i64 0)).setCell ⟨G, 1, none⟩ (.int .i64 mo)).setCell ⟨G, 2, none⟩ (.slice none 0 0)).setCell ⟨G, 3, none⟩ (.int .i64 0)) = w3 at Kr  B ⊢
  clear brc0 brc1 brc2 brc3 bgc0 bgc1 bgc2 fzr
  clear hw
  obtain ⟨d0, d1, d2, d3⟩ := four Kr.out
  refine bodyPost_ret (by simp [results, Tryd.results14, go_sem, d0, d1, d2, d3]; try rfl) rfl ?_
  exact ⟨rfl, B.out⟩
set_option maxRecDepth 100000 in
set_option maxHeartbeats 2000000 in
theorem rnew_bad (mo : Int) (w : World) (h : ¬ (1 ≤ mo ∧ mo ≤ 3600000)) :
    Calls Tryd.prog 14 #[.int .i64 mo] w fun e w' => e = .returned (.agg #[.int .i64 0, .int .i64 0, .slice none 0 0, .int .i64 1]) ∧ Below w.heap.size w w' := by
  have ev : validB 0 mo [] = false := decide_eq_false (fun q => h q.mo1)
  have VA := Lib.hid (fun (X : World) => rvalid_any 0 mo none 0 [] X (RowsA.nil _ _ _ _) (by simp))
  rw [ev] at VA
  clear ev h
  go_enter Tryd.func14, Tryd.ntmps14
  obtain ⟨G, hG⟩ : ∃ G, w.heap.size = G := ⟨_, rfl⟩
  have HG := Lib.hid hG
  obtain ⟨w0, hw0, Kr, B⟩ : ∃ X, (w.alloc (.cells #[.int .i64 0, .int .i64 0, .slice none 0 0, .int .i64 0] 47)) = X ∧ Hid (Blk X (G) 47 #[.int .i64 0, .int .i64 0, .slice none 0 0, .int .i64 0]) ∧ Hid (Below w.heap.size w X) := ⟨_, rfl, Lib.hid (Blk.new' _ _ _ _ hG rfl), Lib.hid (by (repeat' (first | (with_reducible exact Below.refl _ _) | (with_reducible assumption) | (with_reducible refine Below.alloc ?_ ?_ _) | (with_reducible refine Below.drew ?_) | (with_reducible refine below_dn ?_) | (with_reducible refine Below.setCell ?_ ?_ _) | (with_reducible exact Nat.le_refl _) | omega | (simp only [World.size_alloc, World.size_setCell, World.size_drew]; omega) | (simp; omega) | (simp; done))))⟩
  go_upto_region 1 with (fail)
  try rw [hG]
  try rw [hw0]
  clear hw0 hG
  obtain ⟨brc0, brc1, brc2, brc3⟩ := four Kr.out
  obtain ⟨gg, hgg⟩ : ∃ G, w0.heap.size = G := ⟨_, rfl⟩
  have Kg := Lib.hid (show Blk (w0.alloc (.cells #[.int .i64 0, .int .i64 mo, .slice none 0 0] 24)) gg 24 #[.int .i64 0, .int .i64 mo, .slice none 0 0] from Blk.new' w0 _ _ _ hgg rfl)
  have Nrg := Lib.hid (show G < gg from by rw [← hgg]; exact Kr.out.lt)
  replace Kr := Lib.hid (Kr.out.alloc (.cells #[.int .i64 0, .int .i64 mo, .slice none 0 0] 24))
  have Lg := Lib.hid (show w.heap.size ≤ gg from by rw [← hgg]; exact B.out.size)
  replace B := Lib.hid (B.out.alloc B.out.size (.cells #[.int .i64 0, .int .i64 mo, .slice none 0 0] 24))
  go_upto_region 2 with (fail)
  try rw [hgg]
  generalize hw : w0.alloc (.cells #[.int .i64 0, .int .i64 mo, .slice none 0 0] 24) = w1 at Kr Kg  B ⊢
  clear brc0 brc1 brc2 brc3
  clear hw hgg
  obtain ⟨brc0, brc1, brc2, brc3⟩ := four Kr.out
  obtain ⟨bgc0, bgc1, bgc2⟩ := three Kg.out
  go_wp2_with fail
  refine (VA.out _).mono ?_
  rintro e w2 ⟨rfl, hb⟩
  replace Kr := Lib.hid (Kr.out.below hb Kr.out.lt)
  replace Kg := Lib.hid (Kg.out.below hb Kg.out.lt)
  replace B := Lib.hid (B.out.trans (hb.mono B.out.size))
  clear brc0 brc1 brc2 brc3 bgc0 bgc1 bgc2
  clear hb
  obtain ⟨brc0, brc1, brc2, brc3⟩ := four Kr.out
  obtain ⟨bgc0, bgc1, bgc2⟩ := three Kg.out
  clear brc0 brc1 brc2 brc3 bgc0 bgc1 bgc2
  obtain ⟨brc0, brc1, brc2, brc3⟩ := four Kr.out
  obtain ⟨bgc0, bgc1, bgc2⟩ := three Kg.out
  clear brc0 brc1 brc2 brc3 bgc0 bgc1 bgc2
  obtain ⟨brc0, brc1, brc2, brc3⟩ := four Kr.out
  obtain ⟨bgc0, bgc1, bgc2⟩ := three Kg.out
  have fzr := fun q => Kr.out.frozen q
  replace Kr := Lib.hid (show Blk (w2.setCell ⟨G, 0, none⟩ (.int .i64 0)) (G) 47 #[.int .i64 0, .int .i64 0, .slice none 0 0, .int .i64 0] from Kr.out.set_ 0 (.int .i64 0))
  replace B := Lib.hid (show Below w.heap.size w (w2.setCell ⟨G, 0, none⟩ (.int .i64 0)) from B.out.setCell (p := ⟨G, 0, none⟩) (show w.heap.size ≤ G by have := HG.out; omega) (.int .i64 0))
  replace Kr := Lib.hid (show Blk ((w2.setCell ⟨G, 0, none⟩ (.int .i64 0)).setCell ⟨G, 1, none⟩ (.int .i64 0)) (G) 47 #[.int .i64 0, .int .i64 0, .slice none 0 0, .int .i64 0] from Kr.out.set_ 1 (.int .i64 0))
  replace B := Lib.hid (show Below w.heap.size w ((w2.setCell ⟨G, 0, none⟩ (.int .i64 0)).setCell ⟨G, 1, none⟩ (.int .i64 0)) from B.out.setCell (p := ⟨G, 1, none⟩) (show w.heap.size ≤ G by have := HG.out; omega) (.int .i64 0))
  replace Kr := Lib.hid (show Blk (((w2.setCell ⟨G, 0, none⟩ (.int .i64 0)).setCell ⟨G, 1, none⟩ (.int .i64 0)).setCell ⟨G, 2, none⟩ (.slice none 0 0)) (G) 47 #[.int .i64 0, .int .i64 0, .slice none 0 0, .int .i64 0] from Kr.out.set_ 2 (.slice none 0 0))
  replace B := Lib.hid (show Below w.heap.size w (((w2.setCell ⟨G, 0, none⟩ (.int .i64 0)).setCell ⟨G, 1, none⟩ (.int .i64 0)).setCell ⟨G, 2, none⟩ (.slice none 0 0)) from B.out.setCell (p := ⟨G, 2, none⟩) (show w.heap.size ≤ G by have := HG.out; omega) (.slice none 0 0))
  replace Kr := Lib.hid (show Blk ((((w2.setCell ⟨G, 0, none⟩ (.int .i64 0)).setCell ⟨G, 1, none⟩ (.int .i64 0)).setCell ⟨G, 2, none⟩ (.slice none 0 0)).setCell ⟨G, 3, none⟩ (.int .i64 1)) (G) 47 #[.int .i64 0, .int .i64 0, .slice none 0 0, .int .i64 1] from Kr.out.set_ 3 (.int .i64 1))
  replace B := Lib.hid (show Below w.heap.size w ((((w2.setCell ⟨G, 0, none⟩ (.int .i64 0)).setCell ⟨G, 1, none⟩ (.int .i64 0)).setCell ⟨G, 2, none⟩ (.slice none 0 0)).setCell ⟨G, 3, none⟩ (.int .i64 1)) from B.out.setCell (p := ⟨G, 3, none⟩) (show w.heap.size ≤ G by have := HG.out; omega) (.int .i64 1))
  go_wp2
  generalize hw : ((((w2.setCell ⟨G, 0, none⟩ (.int .i64 0)).setCell ⟨G, 1, none⟩ (.int .i64 0)).setCell ⟨G, 2, none⟩ (.slice none 0 0)).setCell ⟨G, 3, none⟩ (.int .i64 1)) = w3 at Kr  B ⊢
  clear brc0 brc1 brc2 brc3 bgc0 bgc1 bgc2 fzr
  clear hw
  obtain ⟨d0, d1, d2, d3⟩ := four Kr.out
  refine bodyPost_ret (by simp [results, Tryd.results14, go_sem, d0, d1, d2, d3]; try rfl) rfl ?_
  exact ⟨rfl, B.out⟩
set_option maxRecDepth 100000 in
set_option maxHeartbeats 2000000 in
theorem rissue_bad (la mo : Int) (a : Option Addr) (c : Nat) (l : List Gr) (w : World) (hp : GrA w a l) (hm : l.length ≤ 10000) (bad : validB la mo l = false) :
    Calls Tryd.prog 15 #[.agg #[.int .i64 la, .int .i64 mo, .slice a l.length c]] w fun e w' => e = .returned (.agg #[.int .i64 0, .int .i64 0, .slice none 0 0, .int .i64 1]) ∧ Below w.heap.size w w' := by
  have HP := Lib.hid hp
  have VA := Lib.hid (fun (X : World) (h : GrA X a l) => rvalid_any la mo a c l X h (by omega))
  rw [bad] at VA
  obtain ⟨N, hN⟩ : ∃ N, l.length = N := ⟨_, rfl⟩
  have HE := Lib.hid hN
  simp only [hN] at VA
  rw [hN]
  clear hN hp hm bad
  go_enter Tryd.func15, Tryd.ntmps15
  obtain ⟨G, hG⟩ : ∃ G, w.heap.size = G := ⟨_, rfl⟩
  have HG := Lib.hid hG
  obtain ⟨w0, hw0, Kg, Kr, B⟩ : ∃ X, ((w.alloc (.cells #[.int .i64 la, .int .i64 mo, .slice a N c] 24)).alloc (.cells #[.int .i64 0, .int .i64 0, .slice none 0 0, .int .i64 0] 47)) = X ∧ Hid (Blk X (G) 24 #[.int .i64 la, .int .i64 mo, .slice a N c]) ∧ Hid (Blk X (G + 1) 47 #[.int .i64 0, .int .i64 0, .slice none 0 0, .int .i64 0]) ∧ Hid (Below w.heap.size w X) := ⟨_, rfl, Lib.hid ((Blk.new' _ _ _ _ hG rfl).alloc _), Lib.hid (Blk.new' _ _ _ _ (by rw [World.size_alloc, hG]) rfl), Lib.hid (by (repeat' (first | (with_reducible exact Below.refl _ _) | (with_reducible assumption) | (with_reducible refine Below.alloc ?_ ?_ _) | (with_reducible refine Below.drew ?_) | (with_reducible refine below_dn ?_) | (with_reducible refine Below.setCell ?_ ?_ _) | (with_reducible exact Nat.le_refl _) | omega | (simp only [World.size_alloc, World.size_setCell, World.size_drew]; omega) | (simp; omega) | (simp; done))))⟩
  go_upto_region 1 with (fail)
  try rw [hG]
  try rw [hw0]
  clear hw0 hG
  obtain ⟨bgc0, bgc1, bgc2⟩ := three Kg.out
  obtain ⟨brc0, brc1, brc2, brc3⟩ := four Kr.out
  go_wp2_with fail
  refine (VA.out _ (HP.out.mono B.out)).mono ?_
  rintro e w1 ⟨rfl, hb⟩
  replace Kg := Lib.hid (Kg.out.below hb Kg.out.lt)
  replace Kr := Lib.hid (Kr.out.below hb Kr.out.lt)
  replace B := Lib.hid (B.out.trans (hb.mono B.out.size))
  clear bgc0 bgc1 bgc2 brc0 brc1 brc2 brc3
  clear hb
  obtain ⟨bgc0, bgc1, bgc2⟩ := three Kg.out
  obtain ⟨brc0, brc1, brc2, brc3⟩ := four Kr.out
  clear bgc0 bgc1 bgc2 brc0 brc1 brc2 brc3
  obtain ⟨bgc0, bgc1, bgc2⟩ := three Kg.out
  obtain ⟨brc0, brc1, brc2, brc3⟩ := four Kr.out
  clear bgc0 bgc1 bgc2 brc0 brc1 brc2 brc3
  obtain ⟨bgc0, bgc1, bgc2⟩ := three Kg.out
  obtain ⟨brc0, brc1, brc2, brc3⟩ := four Kr.out
  have fzr := fun q => Kr.out.frozen q
  replace Kr := Lib.hid (show Blk (w1.setCell ⟨G + 1, 0, none⟩ (.int .i64 0)) (G + 1) 47 #[.int .i64 0, .int .i64 0, .slice none 0 0, .int .i64 0] from Kr.out.set_ 0 (.int .i64 0))
  replace B := Lib.hid (show Below w.heap.size w (w1.setCell ⟨G + 1, 0, none⟩ (.int .i64 0)) from B.out.setCell (p := ⟨G + 1, 0, none⟩) (show w.heap.size ≤ G + 1 by have := HG.out; omega) (.int .i64 0))
  replace Kr := Lib.hid (show Blk ((w1.setCell ⟨G + 1, 0, none⟩ (.int .i64 0)).setCell ⟨G + 1, 1, none⟩ (.int .i64 0)) (G + 1) 47 #[.int .i64 0, .int .i64 0, .slice none 0 0, .int .i64 0] from Kr.out.set_ 1 (.int .i64 0))
  replace B := Lib.hid (show Below w.heap.size w ((w1.setCell ⟨G + 1, 0, none⟩ (.int .i64 0)).setCell ⟨G + 1, 1, none⟩ (.int .i64 0)) from B.out.setCell (p := ⟨G + 1, 1, none⟩) (show w.heap.size ≤ G + 1 by have := HG.out; omega) (.int .i64 0))
  replace Kr := Lib.hid (show Blk (((w1.setCell ⟨G + 1, 0, none⟩ (.int .i64 0)).setCell ⟨G + 1, 1, none⟩ (.int .i64 0)).setCell ⟨G + 1, 2, none⟩ (.slice none 0 0)) (G + 1) 47 #[.int .i64 0, .int .i64 0, .slice none 0 0, .int .i64 0] from Kr.out.set_ 2 (.slice none 0 0))
  replace B := Lib.hid (show Below w.heap.size w (((w1.setCell ⟨G + 1, 0, none⟩ (.int .i64 0)).setCell ⟨G + 1, 1, none⟩ (.int .i64 0)).setCell ⟨G + 1, 2, none⟩ (.slice none 0 0)) from B.out.setCell (p := ⟨G + 1, 2, none⟩) (show w.heap.size ≤ G + 1 by have := HG.out; omega) (.slice none 0 0))
  replace Kr := Lib.hid (show Blk ((((w1.setCell ⟨G + 1, 0, none⟩ (.int .i64 0)).setCell ⟨G + 1, 1, none⟩ (.int .i64 0)).setCell ⟨G + 1, 2, none⟩ (.slice none 0 0)).setCell ⟨G + 1, 3, none⟩ (.int .i64 1)) (G + 1) 47 #[.int .i64 0, .int .i64 0, .slice none 0 0, .int .i64 1] from Kr.out.set_ 3 (.int .i64 1))
  replace B := Lib.hid (show Below w.heap.size w ((((w1.setCell ⟨G + 1, 0, none⟩ (.int .i64 0)).setCell ⟨G + 1, 1, none⟩ (.int .i64 0)).setCell ⟨G + 1, 2, none⟩ (.slice none 0 0)).setCell ⟨G + 1, 3, none⟩ (.int .i64 1)) from B.out.setCell (p := ⟨G + 1, 3, none⟩) (show w.heap.size ≤ G + 1 by have := HG.out; omega) (.int .i64 1))
  go_wp2
  generalize hw : ((((w1.setCell ⟨G + 1, 0, none⟩ (.int .i64 0)).setCell ⟨G + 1, 1, none⟩ (.int .i64 0)).setCell ⟨G + 1, 2, none⟩ (.slice none 0 0)).setCell ⟨G + 1, 3, none⟩ (.int .i64 1)) = w2 at Kr  B ⊢
  clear bgc0 bgc1 bgc2 brc0 brc1 brc2 brc3 fzr
  clear hw
  obtain ⟨d0, d1, d2, d3⟩ := four Kr.out
  refine bodyPost_ret (by simp [results, Tryd.results15, go_sem, d0, d1, d2, d3]; try rfl) rfl ?_
  exact ⟨rfl, B.out⟩
set_option maxRecDepth 100000 in
set_option maxHeartbeats 2000000 in
theorem rissue_lim (la mo : Int) (a : Option Addr) (c : Nat) (l : List Gr) (w : World) (hp : GrA w a l) (hm : l.length ≤ 10000) (ok : GsOk la mo l) (hl : la = 1099511627776) :
    Calls Tryd.prog 15 #[.agg #[.int .i64 la, .int .i64 mo, .slice a l.length c]] w fun e w' => e = .returned (.agg #[.int .i64 0, .int .i64 0, .slice none 0 0, .int .i64 2]) ∧ Below w.heap.size w w' := by
  have HP := Lib.hid hp
  have VA := Lib.hid (fun (X : World) (h : GrA X a l) => rvalid_any la mo a c l X h (by omega))
  have ev : validB la mo l = true := decide_eq_true ok
  rw [ev] at VA
  have t1 : (la == 1099511627776) = true := beq_iff_eq.2 hl
  obtain ⟨N, hN⟩ : ∃ N, l.length = N := ⟨_, rfl⟩
  have HE := Lib.hid hN
  simp only [hN] at VA
  rw [hN]
  clear hN hp hm ev ok hl
  go_enter Tryd.func15, Tryd.ntmps15
  obtain ⟨G, hG⟩ : ∃ G, w.heap.size = G := ⟨_, rfl⟩
  have HG := Lib.hid hG
  obtain ⟨w0, hw0, Kg, Kr, B⟩ : ∃ X, ((w.alloc (.cells #[.int .i64 la, .int .i64 mo, .slice a N c] 24)).alloc (.cells #[.int .i64 0, .int .i64 0, .slice none 0 0, .int .i64 0] 47)) = X ∧ Hid (Blk X (G) 24 #[.int .i64 la, .int .i64 mo, .slice a N c]) ∧ Hid (Blk X (G + 1) 47 #[.int .i64 0, .int .i64 0, .slice none 0 0, .int .i64 0]) ∧ Hid (Below w.heap.size w X) := ⟨_, rfl, Lib.hid ((Blk.new' _ _ _ _ hG rfl).alloc _), Lib.hid (Blk.new' _ _ _ _ (by rw [World.size_alloc, hG]) rfl), Lib.hid (by (repeat' (first | (with_reducible exact Below.refl _ _) | (with_reducible assumption) | (with_reducible refine Below.alloc ?_ ?_ _) | (with_reducible refine Below.drew ?_) | (with_reducible refine below_dn ?_) | (with_reducible refine Below.setCell ?_ ?_ _) | (with_reducible exact Nat.le_refl _) | omega | (simp only [World.size_alloc, World.size_setCell, World.size_drew]; omega) | (simp; omega) | (simp; done))))⟩
  go_upto_region 1 with (fail)
  try rw [hG]
  try rw [hw0]
  clear hw0 hG
  obtain ⟨bgc0, bgc1, bgc2⟩ := three Kg.out
  obtain ⟨brc0, brc1, brc2, brc3⟩ := four Kr.out
  go_wp2_with fail
  refine (VA.out _ (HP.out.mono B.out)).mono ?_
  rintro e w1 ⟨rfl, hb⟩
  replace Kg := Lib.hid (Kg.out.below hb Kg.out.lt)
  replace Kr := Lib.hid (Kr.out.below hb Kr.out.lt)
  replace B := Lib.hid (B.out.trans (hb.mono B.out.size))
  clear bgc0 bgc1 bgc2 brc0 brc1 brc2 brc3
  clear hb
  obtain ⟨bgc0, bgc1, bgc2⟩ := three Kg.out
  obtain ⟨brc0, brc1, brc2, brc3⟩ := four Kr.out
  clear bgc0 bgc1 bgc2 brc0 brc1 brc2 brc3
  obtain ⟨bgc0, bgc1, bgc2⟩ := three Kg.out
  obtain ⟨brc0, brc1, brc2, brc3⟩ := four Kr.out
  clear bgc0 bgc1 bgc2 brc0 brc1 brc2 brc3
  obtain ⟨bgc0, bgc1, bgc2⟩ := three Kg.out
  obtain ⟨brc0, brc1, brc2, brc3⟩ := four Kr.out
  have fzr := fun q => Kr.out.frozen q
  replace Kr := Lib.hid (show Blk (w1.setCell ⟨G + 1, 0, none⟩ (.int .i64 0)) (G + 1) 47 #[.int .i64 0, .int .i64 0, .slice none 0 0, .int .i64 0] from Kr.out.set_ 0 (.int .i64 0))
  replace B := Lib.hid (show Below w.heap.size w (w1.setCell ⟨G + 1, 0, none⟩ (.int .i64 0)) from B.out.setCell (p := ⟨G + 1, 0, none⟩) (show w.heap.size ≤ G + 1 by have := HG.out; omega) (.int .i64 0))
  replace Kr := Lib.hid (show Blk ((w1.setCell ⟨G + 1, 0, none⟩ (.int .i64 0)).setCell ⟨G + 1, 1, none⟩ (.int .i64 0)) (G + 1) 47 #[.int .i64 0, .int .i64 0, .slice none 0 0, .int .i64 0] from Kr.out.set_ 1 (.int .i64 0))
  replace B := Lib.hid (show Below w.heap.size w ((w1.setCell ⟨G + 1, 0, none⟩ (.int .i64 0)).setCell ⟨G + 1, 1, none⟩ (.int .i64 0)) from B.out.setCell (p := ⟨G + 1, 1, none⟩) (show w.heap.size ≤ G + 1 by have := HG.out; omega) (.int .i64 0))
  replace Kr := Lib.hid (show Blk (((w1.setCell ⟨G + 1, 0, none⟩ (.int .i64 0)).setCell ⟨G + 1, 1, none⟩ (.int .i64 0)).setCell ⟨G + 1, 2, none⟩ (.slice none 0 0)) (G + 1) 47 #[.int .i64 0, .int .i64 0, .slice none 0 0, .int .i64 0] from Kr.out.set_ 2 (.slice none 0 0))
  replace B := Lib.hid (show Below w.heap.size w (((w1.setCell ⟨G + 1, 0, none⟩ (.int .i64 0)).setCell ⟨G + 1, 1, none⟩ (.int .i64 0)).setCell ⟨G + 1, 2, none⟩ (.slice none 0 0)) from B.out.setCell (p := ⟨G + 1, 2, none⟩) (show w.heap.size ≤ G + 1 by have := HG.out; omega) (.slice none 0 0))
  replace Kr := Lib.hid (show Blk ((((w1.setCell ⟨G + 1, 0, none⟩ (.int .i64 0)).setCell ⟨G + 1, 1, none⟩ (.int .i64 0)).setCell ⟨G + 1, 2, none⟩ (.slice none 0 0)).setCell ⟨G + 1, 3, none⟩ (.int .i64 2)) (G + 1) 47 #[.int .i64 0, .int .i64 0, .slice none 0 0, .int .i64 2] from Kr.out.set_ 3 (.int .i64 2))
  replace B := Lib.hid (show Below w.heap.size w ((((w1.setCell ⟨G + 1, 0, none⟩ (.int .i64 0)).setCell ⟨G + 1, 1, none⟩ (.int .i64 0)).setCell ⟨G + 1, 2, none⟩ (.slice none 0 0)).setCell ⟨G + 1, 3, none⟩ (.int .i64 2)) from B.out.setCell (p := ⟨G + 1, 3, none⟩) (show w.heap.size ≤ G + 1 by have := HG.out; omega) (.int .i64 2))
  go_wp2
  generalize hw : ((((w1.setCell ⟨G + 1, 0, none⟩ (.int .i64 0)).setCell ⟨G + 1, 1, none⟩ (.int .i64 0)).setCell ⟨G + 1, 2, none⟩ (.slice none 0 0)).setCell ⟨G + 1, 3, none⟩ (.int .i64 2)) = w2 at Kr  B ⊢
  clear bgc0 bgc1 bgc2 brc0 brc1 brc2 brc3 fzr
  clear hw
  obtain ⟨d0, d1, d2, d3⟩ := four Kr.out
  refine bodyPost_ret (by simp [results, Tryd.results15, go_sem, d0, d1, d2, d3]; try rfl) rfl ?_
  exact ⟨rfl, B.out⟩
set_option maxRecDepth 100000 in
set_option maxHeartbeats 2000000 in
theorem rissue_ok (la mo : Int) (a : Option Addr) (c : Nat) (l : List Gr) (w : World) (hp : GrA w a l) (hm : l.length ≤ 10000) (ok : GsOk la mo l) (hl : ¬ la = 1099511627776) :
    Calls Tryd.prog 15 #[.agg #[.int .i64 la, .int .i64 mo, .slice a l.length c]] w fun e w' => e = .returned (.agg #[.int .i64 (la + 1), .int .i64 mo, .slice a l.length c, .int .i64 0]) ∧ Below w.heap.size w w' := by
  have HP := Lib.hid hp
  have VA := Lib.hid (fun (X : World) (h : GrA X a l) => rvalid_any la mo a c l X h (by omega))
  have ev : validB la mo l = true := decide_eq_true ok
  rw [ev] at VA
  have t1 : (la == 1099511627776) = false := beq_eq_false_iff_ne.2 hl
  have wl : IntKind.i64.wrap (la + 1) = la + 1 := by have := ok.la0; rw [IntKind.wrap_i64]; omega
  obtain ⟨N, hN⟩ : ∃ N, l.length = N := ⟨_, rfl⟩
  have HE := Lib.hid hN
  simp only [hN] at VA
  rw [hN]
  clear hN hp hm ev ok hl
  go_enter Tryd.func15, Tryd.ntmps15
  obtain ⟨G, hG⟩ : ∃ G, w.heap.size = G := ⟨_, rfl⟩
  have HG := Lib.hid hG
  obtain ⟨w0, hw0, Kg, Kr, B⟩ : ∃ X, ((w.alloc (.cells #[.int .i64 la, .int .i64 mo, .slice a N c] 24)).alloc (.cells #[.int .i64 0, .int .i64 0, .slice none 0 0, .int .i64 0] 47)) = X ∧ Hid (Blk X (G) 24 #[.int .i64 la, .int .i64 mo, .slice a N c]) ∧ Hid (Blk X (G + 1) 47 #[.int .i64 0, .int .i64 0, .slice none 0 0, .int .i64 0]) ∧ Hid (Below w.heap.size w X) := ⟨_, rfl, Lib.hid ((Blk.new' _ _ _ _ hG rfl).alloc _), Lib.hid (Blk.new' _ _ _ _ (by rw [World.size_alloc, hG]) rfl), Lib.hid (by (repeat' (first | (with_reducible exact Below.refl _ _) | (with_reducible assumption) | (with_reducible refine Below.alloc ?_ ?_ _) | (with_reducible refine Below.drew ?_) | (with_reducible refine below_dn ?_) | (with_reducible refine Below.setCell ?_ ?_ _) | (with_reducible exact Nat.le_refl _) | omega | (simp only [World.size_alloc, World.size_setCell, World.size_drew]; omega) | (simp; omega) | (simp; done))))⟩
  go_upto_region 1 with (fail)
  try rw [hG]
  try rw [hw0]
  clear hw0 hG
  obtain ⟨bgc0, bgc1, bgc2⟩ := three Kg.out
  obtain ⟨brc0, brc1, brc2, brc3⟩ := four Kr.out
  go_wp2_with fail
  refine (VA.out _ (HP.out.mono B.out)).mono ?_
  rintro e w1 ⟨rfl, hb⟩
  replace Kg := Lib.hid (Kg.out.below hb Kg.out.lt)
  replace Kr := Lib.hid (Kr.out.below hb Kr.out.lt)
  replace B := Lib.hid (B.out.trans (hb.mono B.out.size))
  clear bgc0 bgc1 bgc2 brc0 brc1 brc2 brc3
  clear hb
  obtain ⟨bgc0, bgc1, bgc2⟩ := three Kg.out
  obtain ⟨brc0, brc1, brc2, brc3⟩ := four Kr.out
  clear bgc0 bgc1 bgc2 brc0 brc1 brc2 brc3
  obtain ⟨bgc0, bgc1, bgc2⟩ := three Kg.out
  obtain ⟨brc0, brc1, brc2, brc3⟩ := four Kr.out
  clear bgc0 bgc1 bgc2 brc0 brc1 brc2 brc3
  obtain ⟨bgc0, bgc1, bgc2⟩ := three Kg.out
  obtain ⟨brc0, brc1, brc2, brc3⟩ := four Kr.out
  have fzg := fun q => Kg.out.frozen q
  replace Kg := Lib.hid (show Blk (w1.setCell ⟨G, 0, none⟩ (.int .i64 (la + 1))) (G) 24 #[.int .i64 (la + 1), .int .i64 mo, .slice a N c] from Kg.out.set_ 0 (.int .i64 (la + 1)))
  replace Kr := Lib.hid (show Blk (w1.setCell ⟨G, 0, none⟩ (.int .i64 (la + 1))) (G + 1) _ _ from Kr.out.far (p := ⟨G, 0, none⟩) (by simp; try omega) (.int .i64 (la + 1)))
  replace B := Lib.hid (show Below w.heap.size w (w1.setCell ⟨G, 0, none⟩ (.int .i64 (la + 1))) from B.out.setCell (p := ⟨G, 0, none⟩) (show w.heap.size ≤ G by have := HG.out; omega) (.int .i64 (la + 1)))
  go_upto_region 7 with (fail)
  generalize hw : (w1.setCell ⟨G, 0, none⟩ (.int .i64 (la + 1))) = w2 at Kg Kr B ⊢
  clear bgc0 bgc1 bgc2 brc0 brc1 brc2 brc3 fzg
  clear hw
  obtain ⟨bgc0, bgc1, bgc2⟩ := three Kg.out
  obtain ⟨brc0, brc1, brc2, brc3⟩ := four Kr.out
  clear bgc0 bgc1 bgc2 brc0 brc1 brc2 brc3
  obtain ⟨bgc0, bgc1, bgc2⟩ := three Kg.out
  obtain ⟨brc0, brc1, brc2, brc3⟩ := four Kr.out
  have fzr := fun q => Kr.out.frozen q
  replace Kr := Lib.hid (show Blk (w2.setCell ⟨G + 1, 0, none⟩ (.int .i64 (la + 1))) (G + 1) 47 #[.int .i64 (la + 1), .int .i64 0, .slice none 0 0, .int .i64 0] from Kr.out.set_ 0 (.int .i64 (la + 1)))
  replace B := Lib.hid (show Below w.heap.size w (w2.setCell ⟨G + 1, 0, none⟩ (.int .i64 (la + 1))) from B.out.setCell (p := ⟨G + 1, 0, none⟩) (show w.heap.size ≤ G + 1 by have := HG.out; omega) (.int .i64 (la + 1)))
  replace Kr := Lib.hid (show Blk ((w2.setCell ⟨G + 1, 0, none⟩ (.int .i64 (la + 1))).setCell ⟨G + 1, 1, none⟩ (.int .i64 mo)) (G + 1) 47 #[.int .i64 (la + 1), .int .i64 mo, .slice none 0 0, .int .i64 0] from Kr.out.set_ 1 (.int .i64 mo))
  replace B := Lib.hid (show Below w.heap.size w ((w2.setCell ⟨G + 1, 0, none⟩ (.int .i64 (la + 1))).setCell ⟨G + 1, 1, none⟩ (.int .i64 mo)) from B.out.setCell (p := ⟨G + 1, 1, none⟩) (show w.heap.size ≤ G + 1 by have := HG.out; omega) (.int .i64 mo))
  replace Kr := Lib.hid (show Blk (((w2.setCell ⟨G + 1, 0, none⟩ (.int .i64 (la + 1))).setCell ⟨G + 1, 1, none⟩ (.int .i64 mo)).setCell ⟨G + 1, 2, none⟩ (.slice a N c)) (G + 1) 47 #[.int .i64 (la + 1), .int .i64 mo, .slice a N c, .int .i64 0] from Kr.out.set_ 2 (.slice a N c))
  replace B := Lib.hid (show Below w.heap.size w (((w2.setCell ⟨G + 1, 0, none⟩ (.int .i64 (la + 1))).setCell ⟨G + 1, 1, none⟩ (.int .i64 mo)).setCell ⟨G + 1, 2, none⟩ (.slice a N c)) from B.out.setCell (p := ⟨G + 1, 2, none⟩) (show w.heap.size ≤ G + 1 by have := HG.out; omega) (.slice a N c))
  replace Kr := Lib.hid (show Blk ((((w2.setCell ⟨G + 1, 0, none⟩ (.int .i64 (la + 1))).setCell ⟨G + 1, 1, none⟩ (.int .i64 mo)).setCell ⟨G + 1, 2, none⟩ (.slice a N c)).setCell ⟨G + 1, 3, none⟩ (.int .i64 0)) (G + 1) 47 #[.int .i64 (la + 1), .int .i64 mo, .slice a N c, .int .i64 0] from Kr.out.set_ 3 (.int .i64 0))
  replace B := Lib.hid (show Below w.heap.size w ((((w2.setCell ⟨G + 1, 0, none⟩ (.int .i64 (la + 1))).setCell ⟨G + 1, 1, none⟩ (.int .i64 mo)).setCell ⟨G + 1, 2, none⟩ (.slice a N c)).setCell ⟨G + 1, 3, none⟩ (.int .i64 0)) from B.out.setCell (p := ⟨G + 1, 3, none⟩) (show w.heap.size ≤ G + 1 by have := HG.out; omega) (.int .i64 0))
  go_wp2
  generalize hw : ((((w2.setCell ⟨G + 1, 0, none⟩ (.int .i64 (la + 1))).setCell ⟨G + 1, 1, none⟩ (.int .i64 mo)).setCell ⟨G + 1, 2, none⟩ (.slice a N c)).setCell ⟨G + 1, 3, none⟩ (.int .i64 0)) = w3 at Kr  B ⊢
  clear bgc0 bgc1 bgc2 brc0 brc1 brc2 brc3 fzr
  clear hw
  obtain ⟨d0, d1, d2, d3⟩ := four Kr.out
  refine bodyPost_ret (by simp [results, Tryd.results15, go_sem, d0, d1, d2, d3]; try rfl) rfl ?_
  exact ⟨rfl, B.out⟩
set_option maxRecDepth 100000 in
set_option maxHeartbeats 2000000 in
theorem rconf_bad (la mo : Int) (a : Option Addr) (c : Nat) (l : List Gr) (n ep : Int) (w : World) (hp : GrA w a l) (hm : l.length ≤ 10000) (bad : validB la mo l = false) :
    Calls Tryd.prog 16 #[.agg #[.int .i64 la, .int .i64 mo, .slice a l.length c], .int .i64 n, .int .i64 ep] w fun e w' => e = .returned (.agg #[.int .i64 0, .int .i64 0, .slice none 0 0, .int .i64 1]) ∧ Below w.heap.size w w' := by
  have HP := Lib.hid hp
  have VA := Lib.hid (fun (X : World) (h : GrA X a l) => rvalid_any la mo a c l X h (by omega))
  rw [bad] at VA
  obtain ⟨N, hN⟩ : ∃ N, l.length = N := ⟨_, rfl⟩
  have HE := Lib.hid hN
  simp only [hN] at VA
  rw [hN]
  clear hN hp hm bad
  go_enter Tryd.func16, Tryd.ntmps16
  obtain ⟨G, hG⟩ : ∃ G, w.heap.size = G := ⟨_, rfl⟩
  have HG := Lib.hid hG
  obtain ⟨w0, hw0, Kg, Kr, B⟩ : ∃ X, ((w.alloc (.cells #[.int .i64 la, .int .i64 mo, .slice a N c] 24)).alloc (.cells #[.int .i64 0, .int .i64 0, .slice none 0 0, .int .i64 0] 47)) = X ∧ Hid (Blk X (G) 24 #[.int .i64 la, .int .i64 mo, .slice a N c]) ∧ Hid (Blk X (G + 1) 47 #[.int .i64 0, .int .i64 0, .slice none 0 0, .int .i64 0]) ∧ Hid (Below w.heap.size w X) := ⟨_, rfl, Lib.hid ((Blk.new' _ _ _ _ hG rfl).alloc _), Lib.hid (Blk.new' _ _ _ _ (by rw [World.size_alloc, hG]) rfl), Lib.hid (by (repeat' (first | (with_reducible exact Below.refl _ _) | (with_reducible assumption) | (with_reducible refine Below.alloc ?_ ?_ _) | (with_reducible refine Below.drew ?_) | (with_reducible refine below_dn ?_) | (with_reducible refine Below.setCell ?_ ?_ _) | (with_reducible exact Nat.le_refl _) | omega | (simp only [World.size_alloc, World.size_setCell, World.size_drew]; omega) | (simp; omega) | (simp; done))))⟩
  go_upto_region 1 with (fail)
  try rw [hG]
  try rw [hw0]
  clear hw0 hG
  obtain ⟨bgc0, bgc1, bgc2⟩ := three Kg.out
  obtain ⟨brc0, brc1, brc2, brc3⟩ := four Kr.out
  go_wp2_with fail
  refine (VA.out _ (HP.out.mono B.out)).mono ?_
  rintro e w1 ⟨rfl, hb⟩
  replace Kg := Lib.hid (Kg.out.below hb Kg.out.lt)
  replace Kr := Lib.hid (Kr.out.below hb Kr.out.lt)
  replace B := Lib.hid (B.out.trans (hb.mono B.out.size))
  clear bgc0 bgc1 bgc2 brc0 brc1 brc2 brc3
  clear hb
  obtain ⟨bgc0, bgc1, bgc2⟩ := three Kg.out
  obtain ⟨brc0, brc1, brc2, brc3⟩ := four Kr.out
  clear bgc0 bgc1 bgc2 brc0 brc1 brc2 brc3
  obtain ⟨bgc0, bgc1, bgc2⟩ := three Kg.out
  obtain ⟨brc0, brc1, brc2, brc3⟩ := four Kr.out
  clear bgc0 bgc1 bgc2 brc0 brc1 brc2 brc3
  obtain ⟨bgc0, bgc1, bgc2⟩ := three Kg.out
  obtain ⟨brc0, brc1, brc2, brc3⟩ := four Kr.out
  have fzr := fun q => Kr.out.frozen q
  replace Kr := Lib.hid (show Blk (w1.setCell ⟨G + 1, 0, none⟩ (.int .i64 0)) (G + 1) 47 #[.int .i64 0, .int .i64 0, .slice none 0 0, .int .i64 0] from Kr.out.set_ 0 (.int .i64 0))
  replace B := Lib.hid (show Below w.heap.size w (w1.setCell ⟨G + 1, 0, none⟩ (.int .i64 0)) from B.out.setCell (p := ⟨G + 1, 0, none⟩) (show w.heap.size ≤ G + 1 by have := HG.out; omega) (.int .i64 0))
  replace Kr := Lib.hid (show Blk ((w1.setCell ⟨G + 1, 0, none⟩ (.int .i64 0)).setCell ⟨G + 1, 1, none⟩ (.int .i64 0)) (G + 1) 47 #[.int .i64 0, .int .i64 0, .slice none 0 0, .int .i64 0] from Kr.out.set_ 1 (.int .i64 0))
  replace B := Lib.hid (show Below w.heap.size w ((w1.setCell ⟨G + 1, 0, none⟩ (.int .i64 0)).setCell ⟨G + 1, 1, none⟩ (.int .i64 0)) from B.out.setCell (p := ⟨G + 1, 1, none⟩) (show w.heap.size ≤ G + 1 by have := HG.out; omega) (.int .i64 0))
  replace Kr := Lib.hid (show Blk (((w1.setCell ⟨G + 1, 0, none⟩ (.int .i64 0)).setCell ⟨G + 1, 1, none⟩ (.int .i64 0)).setCell ⟨G + 1, 2, none⟩ (.slice none 0 0)) (G + 1) 47 #[.int .i64 0, .int .i64 0, .slice none 0 0, .int .i64 0] from Kr.out.set_ 2 (.slice none 0 0))
  replace B := Lib.hid (show Below w.heap.size w (((w1.setCell ⟨G + 1, 0, none⟩ (.int .i64 0)).setCell ⟨G + 1, 1, none⟩ (.int .i64 0)).setCell ⟨G + 1, 2, none⟩ (.slice none 0 0)) from B.out.setCell (p := ⟨G + 1, 2, none⟩) (show w.heap.size ≤ G + 1 by have := HG.out; omega) (.slice none 0 0))
  replace Kr := Lib.hid (show Blk ((((w1.setCell ⟨G + 1, 0, none⟩ (.int .i64 0)).setCell ⟨G + 1, 1, none⟩ (.int .i64 0)).setCell ⟨G + 1, 2, none⟩ (.slice none 0 0)).setCell ⟨G + 1, 3, none⟩ (.int .i64 1)) (G + 1) 47 #[.int .i64 0, .int .i64 0, .slice none 0 0, .int .i64 1] from Kr.out.set_ 3 (.int .i64 1))
  replace B := Lib.hid (show Below w.heap.size w ((((w1.setCell ⟨G + 1, 0, none⟩ (.int .i64 0)).setCell ⟨G + 1, 1, none⟩ (.int .i64 0)).setCell ⟨G + 1, 2, none⟩ (.slice none 0 0)).setCell ⟨G + 1, 3, none⟩ (.int .i64 1)) from B.out.setCell (p := ⟨G + 1, 3, none⟩) (show w.heap.size ≤ G + 1 by have := HG.out; omega) (.int .i64 1))
  go_wp2
  generalize hw : ((((w1.setCell ⟨G + 1, 0, none⟩ (.int .i64 0)).setCell ⟨G + 1, 1, none⟩ (.int .i64 0)).setCell ⟨G + 1, 2, none⟩ (.slice none 0 0)).setCell ⟨G + 1, 3, none⟩ (.int .i64 1)) = w2 at Kr  B ⊢
  clear bgc0 bgc1 bgc2 brc0 brc1 brc2 brc3 fzr
  clear hw
  obtain ⟨d0, d1, d2, d3⟩ := four Kr.out
  refine bodyPost_ret (by simp [results, Tryd.results16, go_sem, d0, d1, d2, d3]; try rfl) rfl ?_
  exact ⟨rfl, B.out⟩
set_option maxRecDepth 100000 in
set_option maxHeartbeats 2000000 in
theorem rconf_site (la mo : Int) (a : Option Addr) (c : Nat) (l : List Gr) (n ep : Int) (w : World) (hp : GrA w a l) (hm : l.length ≤ 10000) (ok : GsOk la mo l) (hs : ¬ (0 ≤ n ∧ n < 64)) :
    Calls Tryd.prog 16 #[.agg #[.int .i64 la, .int .i64 mo, .slice a l.length c], .int .i64 n, .int .i64 ep] w fun e w' => e = .returned (.agg #[.int .i64 0, .int .i64 0, .slice none 0 0, .int .i64 1]) ∧ Below w.heap.size w w' := by
  have HP := Lib.hid hp
  have VA := Lib.hid (fun (X : World) (h : GrA X a l) => rvalid_any la mo a c l X h (by omega))
  have ev : validB la mo l = true := decide_eq_true ok
  rw [ev] at VA
  have SI := Lib.hid (fun (X : World) => rsite_no hs X)
  obtain ⟨N, hN⟩ : ∃ N, l.length = N := ⟨_, rfl⟩
  have HE := Lib.hid hN
  simp only [hN] at VA
  rw [hN]
  clear hN hp hm ev ok hs
  go_enter Tryd.func16, Tryd.ntmps16
  obtain ⟨G, hG⟩ : ∃ G, w.heap.size = G := ⟨_, rfl⟩
  have HG := Lib.hid hG
  obtain ⟨w0, hw0, Kg, Kr, B⟩ : ∃ X, ((w.alloc (.cells #[.int .i64 la, .int .i64 mo, .slice a N c] 24)).alloc (.cells #[.int .i64 0, .int .i64 0, .slice none 0 0, .int .i64 0] 47)) = X ∧ Hid (Blk X (G) 24 #[.int .i64 la, .int .i64 mo, .slice a N c]) ∧ Hid (Blk X (G + 1) 47 #[.int .i64 0, .int .i64 0, .slice none 0 0, .int .i64 0]) ∧ Hid (Below w.heap.size w X) := ⟨_, rfl, Lib.hid ((Blk.new' _ _ _ _ hG rfl).alloc _), Lib.hid (Blk.new' _ _ _ _ (by rw [World.size_alloc, hG]) rfl), Lib.hid (by (repeat' (first | (with_reducible exact Below.refl _ _) | (with_reducible assumption) | (with_reducible refine Below.alloc ?_ ?_ _) | (with_reducible refine Below.drew ?_) | (with_reducible refine below_dn ?_) | (with_reducible refine Below.setCell ?_ ?_ _) | (with_reducible exact Nat.le_refl _) | omega | (simp only [World.size_alloc, World.size_setCell, World.size_drew]; omega) | (simp; omega) | (simp; done))))⟩
  go_upto_region 1 with (fail)
  try rw [hG]
  try rw [hw0]
  clear hw0 hG
  obtain ⟨bgc0, bgc1, bgc2⟩ := three Kg.out
  obtain ⟨brc0, brc1, brc2, brc3⟩ := four Kr.out
  go_wp2_with fail
  refine (VA.out _ (HP.out.mono B.out)).mono ?_
  rintro e w1 ⟨rfl, hb⟩
  replace Kg := Lib.hid (Kg.out.below hb Kg.out.lt)
  replace Kr := Lib.hid (Kr.out.below hb Kr.out.lt)
  replace B := Lib.hid (B.out.trans (hb.mono B.out.size))
  clear bgc0 bgc1 bgc2 brc0 brc1 brc2 brc3
  clear hb
  obtain ⟨bgc0, bgc1, bgc2⟩ := three Kg.out
  obtain ⟨brc0, brc1, brc2, brc3⟩ := four Kr.out
  clear bgc0 bgc1 bgc2 brc0 brc1 brc2 brc3
  obtain ⟨bgc0, bgc1, bgc2⟩ := three Kg.out
  obtain ⟨brc0, brc1, brc2, brc3⟩ := four Kr.out
  go_wp2_with fail
  refine (SI.out _).mono ?_
  rintro e w2 ⟨rfl, hb⟩
  replace Kg := Lib.hid (Kg.out.below hb Kg.out.lt)
  replace Kr := Lib.hid (Kr.out.below hb Kr.out.lt)
  replace B := Lib.hid (B.out.trans (hb.mono B.out.size))
  clear bgc0 bgc1 bgc2 brc0 brc1 brc2 brc3
  clear hb
  obtain ⟨bgc0, bgc1, bgc2⟩ := three Kg.out
  obtain ⟨brc0, brc1, brc2, brc3⟩ := four Kr.out
  clear bgc0 bgc1 bgc2 brc0 brc1 brc2 brc3
  obtain ⟨bgc0, bgc1, bgc2⟩ := three Kg.out
  obtain ⟨brc0, brc1, brc2, brc3⟩ := four Kr.out
  clear bgc0 bgc1 bgc2 brc0 brc1 brc2 brc3
  obtain ⟨bgc0, bgc1, bgc2⟩ := three Kg.out
  obtain ⟨brc0, brc1, brc2, brc3⟩ := four Kr.out
  have fzr := fun q => Kr.out.frozen q
  replace Kr := Lib.hid (show Blk (w2.setCell ⟨G + 1, 0, none⟩ (.int .i64 0)) (G + 1) 47 #[.int .i64 0, .int .i64 0, .slice none 0 0, .int .i64 0] from Kr.out.set_ 0 (.int .i64 0))
  replace B := Lib.hid (show Below w.heap.size w (w2.setCell ⟨G + 1, 0, none⟩ (.int .i64 0)) from B.out.setCell (p := ⟨G + 1, 0, none⟩) (show w.heap.size ≤ G + 1 by have := HG.out; omega) (.int .i64 0))
  replace Kr := Lib.hid (show Blk ((w2.setCell ⟨G + 1, 0, none⟩ (.int .i64 0)).setCell ⟨G + 1, 1, none⟩ (.int .i64 0)) (G + 1) 47 #[.int .i64 0, .int .i64 0, .slice none 0 0, .int .i64 0] from Kr.out.set_ 1 (.int .i64 0))
  replace B := Lib.hid (show Below w.heap.size w ((w2.setCell ⟨G + 1, 0, none⟩ (.int .i64 0)).setCell ⟨G + 1, 1, none⟩ (.int .i64 0)) from B.out.setCell (p := ⟨G + 1, 1, none⟩) (show w.heap.size ≤ G + 1 by have := HG.out; omega) (.int .i64 0))
  replace Kr := Lib.hid (show Blk (((w2.setCell ⟨G + 1, 0, none⟩ (.int .i64 0)).setCell ⟨G + 1, 1, none⟩ (.int .i64 0)).setCell ⟨G + 1, 2, none⟩ (.slice none 0 0)) (G + 1) 47 #[.int .i64 0, .int .i64 0, .slice none 0 0, .int .i64 0] from Kr.out.set_ 2 (.slice none 0 0))
  replace B := Lib.hid (show Below w.heap.size w (((w2.setCell ⟨G + 1, 0, none⟩ (.int .i64 0)).setCell ⟨G + 1, 1, none⟩ (.int .i64 0)).setCell ⟨G + 1, 2, none⟩ (.slice none 0 0)) from B.out.setCell (p := ⟨G + 1, 2, none⟩) (show w.heap.size ≤ G + 1 by have := HG.out; omega) (.slice none 0 0))
  replace Kr := Lib.hid (show Blk ((((w2.setCell ⟨G + 1, 0, none⟩ (.int .i64 0)).setCell ⟨G + 1, 1, none⟩ (.int .i64 0)).setCell ⟨G + 1, 2, none⟩ (.slice none 0 0)).setCell ⟨G + 1, 3, none⟩ (.int .i64 1)) (G + 1) 47 #[.int .i64 0, .int .i64 0, .slice none 0 0, .int .i64 1] from Kr.out.set_ 3 (.int .i64 1))
  replace B := Lib.hid (show Below w.heap.size w ((((w2.setCell ⟨G + 1, 0, none⟩ (.int .i64 0)).setCell ⟨G + 1, 1, none⟩ (.int .i64 0)).setCell ⟨G + 1, 2, none⟩ (.slice none 0 0)).setCell ⟨G + 1, 3, none⟩ (.int .i64 1)) from B.out.setCell (p := ⟨G + 1, 3, none⟩) (show w.heap.size ≤ G + 1 by have := HG.out; omega) (.int .i64 1))
  go_wp2
  generalize hw : ((((w2.setCell ⟨G + 1, 0, none⟩ (.int .i64 0)).setCell ⟨G + 1, 1, none⟩ (.int .i64 0)).setCell ⟨G + 1, 2, none⟩ (.slice none 0 0)).setCell ⟨G + 1, 3, none⟩ (.int .i64 1)) = w3 at Kr  B ⊢
  clear bgc0 bgc1 bgc2 brc0 brc1 brc2 brc3 fzr
  clear hw
  obtain ⟨d0, d1, d2, d3⟩ := four Kr.out
  refine bodyPost_ret (by simp [results, Tryd.results16, go_sem, d0, d1, d2, d3]; try rfl) rfl ?_
  exact ⟨rfl, B.out⟩
set_option maxRecDepth 100000 in
set_option maxHeartbeats 2000000 in
theorem rconf_neg (la mo : Int) (a : Option Addr) (c : Nat) (l : List Gr) (n ep : Int) (w : World) (hp : GrA w a l) (hm : l.length ≤ 10000) (ok : GsOk la mo l)(hs : 0 ≤ n ∧ n < 64) (h1 : ep < 0) :
    Calls Tryd.prog 16 #[.agg #[.int .i64 la, .int .i64 mo, .slice a l.length c], .int .i64 n, .int .i64 ep] w fun e w' => e = .returned (.agg #[.int .i64 0, .int .i64 0, .slice none 0 0, .int .i64 1]) ∧ Below w.heap.size w w' := by
  have HP := Lib.hid hp
  have VA := Lib.hid (fun (X : World) (h : GrA X a l) => rvalid_any la mo a c l X h (by omega))
  have ev : validB la mo l = true := decide_eq_true ok
  rw [ev] at VA
  have SI := Lib.hid (fun (X : World) => rsite_yes hs X)
  have t1 : decide (ep < 0) = true := decide_eq_true h1
  obtain ⟨N, hN⟩ : ∃ N, l.length = N := ⟨_, rfl⟩
  have HE := Lib.hid hN
  simp only [hN] at VA
  rw [hN]
  clear hN hp hm ev ok hs h1
  go_enter Tryd.func16, Tryd.ntmps16
  obtain ⟨G, hG⟩ : ∃ G, w.heap.size = G := ⟨_, rfl⟩
  have HG := Lib.hid hG
  obtain ⟨w0, hw0, Kg, Kr, B⟩ : ∃ X, ((w.alloc (.cells #[.int .i64 la, .int .i64 mo, .slice a N c] 24)).alloc (.cells #[.int .i64 0, .int .i64 0, .slice none 0 0, .int .i64 0] 47)) = X ∧ Hid (Blk X (G) 24 #[.int .i64 la, .int .i64 mo, .slice a N c]) ∧ Hid (Blk X (G + 1) 47 #[.int .i64 0, .int .i64 0, .slice none 0 0, .int .i64 0]) ∧ Hid (Below w.heap.size w X) := ⟨_, rfl, Lib.hid ((Blk.new' _ _ _ _ hG rfl).alloc _), Lib.hid (Blk.new' _ _ _ _ (by rw [World.size_alloc, hG]) rfl), Lib.hid (by (repeat' (first | (with_reducible exact Below.refl _ _) | (with_reducible assumption) | (with_reducible refine Below.alloc ?_ ?_ _) | (with_reducible refine Below.drew ?_) | (with_reducible refine below_dn ?_) | (with_reducible refine Below.setCell ?_ ?_ _) | (with_reducible exact Nat.le_refl _) | omega | (simp only [World.size_alloc, World.size_setCell, World.size_drew]; omega) | (simp; omega) | (simp; done))))⟩
  go_upto_region 1 with (fail)
  try rw [hG]
  try rw [hw0]
  clear hw0 hG
  obtain ⟨bgc0, bgc1, bgc2⟩ := three Kg.out
  obtain ⟨brc0, brc1, brc2, brc3⟩ := four Kr.out
  go_wp2_with fail
  refine (VA.out _ (HP.out.mono B.out)).mono ?_
  rintro e w1 ⟨rfl, hb⟩
  replace Kg := Lib.hid (Kg.out.below hb Kg.out.lt)
  replace Kr := Lib.hid (Kr.out.below hb Kr.out.lt)
  replace B := Lib.hid (B.out.trans (hb.mono B.out.size))
  clear bgc0 bgc1 bgc2 brc0 brc1 brc2 brc3
  clear hb
  obtain ⟨bgc0, bgc1, bgc2⟩ := three Kg.out
  obtain ⟨brc0, brc1, brc2, brc3⟩ := four Kr.out
  clear bgc0 bgc1 bgc2 brc0 brc1 brc2 brc3
  obtain ⟨bgc0, bgc1, bgc2⟩ := three Kg.out
  obtain ⟨brc0, brc1, brc2, brc3⟩ := four Kr.out
  go_wp2_with fail
  refine (SI.out _).mono ?_
  rintro e w2 ⟨rfl, hb⟩
  replace Kg := Lib.hid (Kg.out.below hb Kg.out.lt)
  replace Kr := Lib.hid (Kr.out.below hb Kr.out.lt)
  replace B := Lib.hid (B.out.trans (hb.mono B.out.size))
  clear bgc0 bgc1 bgc2 brc0 brc1 brc2 brc3
  clear hb
  obtain ⟨bgc0, bgc1, bgc2⟩ := three Kg.out
  obtain ⟨brc0, brc1, brc2, brc3⟩ := four Kr.out
  clear bgc0 bgc1 bgc2 brc0 brc1 brc2 brc3
  obtain ⟨bgc0, bgc1, bgc2⟩ := three Kg.out
  obtain ⟨brc0, brc1, brc2, brc3⟩ := four Kr.out
  clear bgc0 bgc1 bgc2 brc0 brc1 brc2 brc3
  obtain ⟨bgc0, bgc1, bgc2⟩ := three Kg.out
  obtain ⟨brc0, brc1, brc2, brc3⟩ := four Kr.out
  have fzr := fun q => Kr.out.frozen q
  replace Kr := Lib.hid (show Blk (w2.setCell ⟨G + 1, 0, none⟩ (.int .i64 0)) (G + 1) 47 #[.int .i64 0, .int .i64 0, .slice none 0 0, .int .i64 0] from Kr.out.set_ 0 (.int .i64 0))
  replace B := Lib.hid (show Below w.heap.size w (w2.setCell ⟨G + 1, 0, none⟩ (.int .i64 0)) from B.out.setCell (p := ⟨G + 1, 0, none⟩) (show w.heap.size ≤ G + 1 by have := HG.out; omega) (.int .i64 0))
  replace Kr := Lib.hid (show Blk ((w2.setCell ⟨G + 1, 0, none⟩ (.int .i64 0)).setCell ⟨G + 1, 1, none⟩ (.int .i64 0)) (G + 1) 47 #[.int .i64 0, .int .i64 0, .slice none 0 0, .int .i64 0] from Kr.out.set_ 1 (.int .i64 0))
  replace B := Lib.hid (show Below w.heap.size w ((w2.setCell ⟨G + 1, 0, none⟩ (.int .i64 0)).setCell ⟨G + 1, 1, none⟩ (.int .i64 0)) from B.out.setCell (p := ⟨G + 1, 1, none⟩) (show w.heap.size ≤ G + 1 by have := HG.out; omega) (.int .i64 0))
  replace Kr := Lib.hid (show Blk (((w2.setCell ⟨G + 1, 0, none⟩ (.int .i64 0)).setCell ⟨G + 1, 1, none⟩ (.int .i64 0)).setCell ⟨G + 1, 2, none⟩ (.slice none 0 0)) (G + 1) 47 #[.int .i64 0, .int .i64 0, .slice none 0 0, .int .i64 0] from Kr.out.set_ 2 (.slice none 0 0))
  replace B := Lib.hid (show Below w.heap.size w (((w2.setCell ⟨G + 1, 0, none⟩ (.int .i64 0)).setCell ⟨G + 1, 1, none⟩ (.int .i64 0)).setCell ⟨G + 1, 2, none⟩ (.slice none 0 0)) from B.out.setCell (p := ⟨G + 1, 2, none⟩) (show w.heap.size ≤ G + 1 by have := HG.out; omega) (.slice none 0 0))
  replace Kr := Lib.hid (show Blk ((((w2.setCell ⟨G + 1, 0, none⟩ (.int .i64 0)).setCell ⟨G + 1, 1, none⟩ (.int .i64 0)).setCell ⟨G + 1, 2, none⟩ (.slice none 0 0)).setCell ⟨G + 1, 3, none⟩ (.int .i64 1)) (G + 1) 47 #[.int .i64 0, .int .i64 0, .slice none 0 0, .int .i64 1] from Kr.out.set_ 3 (.int .i64 1))
  replace B := Lib.hid (show Below w.heap.size w ((((w2.setCell ⟨G + 1, 0, none⟩ (.int .i64 0)).setCell ⟨G + 1, 1, none⟩ (.int .i64 0)).setCell ⟨G + 1, 2, none⟩ (.slice none 0 0)).setCell ⟨G + 1, 3, none⟩ (.int .i64 1)) from B.out.setCell (p := ⟨G + 1, 3, none⟩) (show w.heap.size ≤ G + 1 by have := HG.out; omega) (.int .i64 1))
  go_wp2
  generalize hw : ((((w2.setCell ⟨G + 1, 0, none⟩ (.int .i64 0)).setCell ⟨G + 1, 1, none⟩ (.int .i64 0)).setCell ⟨G + 1, 2, none⟩ (.slice none 0 0)).setCell ⟨G + 1, 3, none⟩ (.int .i64 1)) = w3 at Kr  B ⊢
  clear bgc0 bgc1 bgc2 brc0 brc1 brc2 brc3 fzr
  clear hw
  obtain ⟨d0, d1, d2, d3⟩ := four Kr.out
  refine bodyPost_ret (by simp [results, Tryd.results16, go_sem, d0, d1, d2, d3]; try rfl) rfl ?_
  exact ⟨rfl, B.out⟩
set_option maxRecDepth 100000 in
set_option maxHeartbeats 2000000 in
theorem rconf_big (la mo : Int) (a : Option Addr) (c : Nat) (l : List Gr) (n ep : Int) (w : World) (hp : GrA w a l) (hm : l.length ≤ 10000) (ok : GsOk la mo l)(hs : 0 ≤ n ∧ n < 64) (h1 : ¬ ep < 0) (h2 : la < ep) :
    Calls Tryd.prog 16 #[.agg #[.int .i64 la, .int .i64 mo, .slice a l.length c], .int .i64 n, .int .i64 ep] w fun e w' => e = .returned (.agg #[.int .i64 0, .int .i64 0, .slice none 0 0, .int .i64 1]) ∧ Below w.heap.size w w' := by
  have HP := Lib.hid hp
  have VA := Lib.hid (fun (X : World) (h : GrA X a l) => rvalid_any la mo a c l X h (by omega))
  have ev : validB la mo l = true := decide_eq_true ok
  rw [ev] at VA
  have SI := Lib.hid (fun (X : World) => rsite_yes hs X)
  have t1 : decide (ep < 0) = false := decide_eq_false h1
  have t2 : decide (la < ep) = true := decide_eq_true h2
  obtain ⟨N, hN⟩ : ∃ N, l.length = N := ⟨_, rfl⟩
  have HE := Lib.hid hN
  simp only [hN] at VA
  rw [hN]
  clear hN hp hm ev ok hs h1 h2
  go_enter Tryd.func16, Tryd.ntmps16
  obtain ⟨G, hG⟩ : ∃ G, w.heap.size = G := ⟨_, rfl⟩
  have HG := Lib.hid hG
  obtain ⟨w0, hw0, Kg, Kr, B⟩ : ∃ X, ((w.alloc (.cells #[.int .i64 la, .int .i64 mo, .slice a N c] 24)).alloc (.cells #[.int .i64 0, .int .i64 0, .slice none 0 0, .int .i64 0] 47)) = X ∧ Hid (Blk X (G) 24 #[.int .i64 la, .int .i64 mo, .slice a N c]) ∧ Hid (Blk X (G + 1) 47 #[.int .i64 0, .int .i64 0, .slice none 0 0, .int .i64 0]) ∧ Hid (Below w.heap.size w X) := ⟨_, rfl, Lib.hid ((Blk.new' _ _ _ _ hG rfl).alloc _), Lib.hid (Blk.new' _ _ _ _ (by rw [World.size_alloc, hG]) rfl), Lib.hid (by (repeat' (first | (with_reducible exact Below.refl _ _) | (with_reducible assumption) | (with_reducible refine Below.alloc ?_ ?_ _) | (with_reducible refine Below.drew ?_) | (with_reducible refine below_dn ?_) | (with_reducible refine Below.setCell ?_ ?_ _) | (with_reducible exact Nat.le_refl _) | omega | (simp only [World.size_alloc, World.size_setCell, World.size_drew]; omega) | (simp; omega) | (simp; done))))⟩
  go_upto_region 1 with (fail)
  try rw [hG]
  try rw [hw0]
  clear hw0 hG
  obtain ⟨bgc0, bgc1, bgc2⟩ := three Kg.out
  obtain ⟨brc0, brc1, brc2, brc3⟩ := four Kr.out
  go_wp2_with fail
  refine (VA.out _ (HP.out.mono B.out)).mono ?_
  rintro e w1 ⟨rfl, hb⟩
  replace Kg := Lib.hid (Kg.out.below hb Kg.out.lt)
  replace Kr := Lib.hid (Kr.out.below hb Kr.out.lt)
  replace B := Lib.hid (B.out.trans (hb.mono B.out.size))
  clear bgc0 bgc1 bgc2 brc0 brc1 brc2 brc3
  clear hb
  obtain ⟨bgc0, bgc1, bgc2⟩ := three Kg.out
  obtain ⟨brc0, brc1, brc2, brc3⟩ := four Kr.out
  clear bgc0 bgc1 bgc2 brc0 brc1 brc2 brc3
  obtain ⟨bgc0, bgc1, bgc2⟩ := three Kg.out
  obtain ⟨brc0, brc1, brc2, brc3⟩ := four Kr.out
  go_wp2_with fail
  refine (SI.out _).mono ?_
  rintro e w2 ⟨rfl, hb⟩
  replace Kg := Lib.hid (Kg.out.below hb Kg.out.lt)
  replace Kr := Lib.hid (Kr.out.below hb Kr.out.lt)
  replace B := Lib.hid (B.out.trans (hb.mono B.out.size))
  clear bgc0 bgc1 bgc2 brc0 brc1 brc2 brc3
  clear hb
  obtain ⟨bgc0, bgc1, bgc2⟩ := three Kg.out
  obtain ⟨brc0, brc1, brc2, brc3⟩ := four Kr.out
  clear bgc0 bgc1 bgc2 brc0 brc1 brc2 brc3
  obtain ⟨bgc0, bgc1, bgc2⟩ := three Kg.out
  obtain ⟨brc0, brc1, brc2, brc3⟩ := four Kr.out
  clear bgc0 bgc1 bgc2 brc0 brc1 brc2 brc3
  obtain ⟨bgc0, bgc1, bgc2⟩ := three Kg.out
  obtain ⟨brc0, brc1, brc2, brc3⟩ := four Kr.out
  have fzr := fun q => Kr.out.frozen q
  replace Kr := Lib.hid (show Blk (w2.setCell ⟨G + 1, 0, none⟩ (.int .i64 0)) (G + 1) 47 #[.int .i64 0, .int .i64 0, .slice none 0 0, .int .i64 0] from Kr.out.set_ 0 (.int .i64 0))
  replace B := Lib.hid (show Below w.heap.size w (w2.setCell ⟨G + 1, 0, none⟩ (.int .i64 0)) from B.out.setCell (p := ⟨G + 1, 0, none⟩) (show w.heap.size ≤ G + 1 by have := HG.out; omega) (.int .i64 0))
  replace Kr := Lib.hid (show Blk ((w2.setCell ⟨G + 1, 0, none⟩ (.int .i64 0)).setCell ⟨G + 1, 1, none⟩ (.int .i64 0)) (G + 1) 47 #[.int .i64 0, .int .i64 0, .slice none 0 0, .int .i64 0] from Kr.out.set_ 1 (.int .i64 0))
  replace B := Lib.hid (show Below w.heap.size w ((w2.setCell ⟨G + 1, 0, none⟩ (.int .i64 0)).setCell ⟨G + 1, 1, none⟩ (.int .i64 0)) from B.out.setCell (p := ⟨G + 1, 1, none⟩) (show w.heap.size ≤ G + 1 by have := HG.out; omega) (.int .i64 0))
  replace Kr := Lib.hid (show Blk (((w2.setCell ⟨G + 1, 0, none⟩ (.int .i64 0)).setCell ⟨G + 1, 1, none⟩ (.int .i64 0)).setCell ⟨G + 1, 2, none⟩ (.slice none 0 0)) (G + 1) 47 #[.int .i64 0, .int .i64 0, .slice none 0 0, .int .i64 0] from Kr.out.set_ 2 (.slice none 0 0))
  replace B := Lib.hid (show Below w.heap.size w (((w2.setCell ⟨G + 1, 0, none⟩ (.int .i64 0)).setCell ⟨G + 1, 1, none⟩ (.int .i64 0)).setCell ⟨G + 1, 2, none⟩ (.slice none 0 0)) from B.out.setCell (p := ⟨G + 1, 2, none⟩) (show w.heap.size ≤ G + 1 by have := HG.out; omega) (.slice none 0 0))
  replace Kr := Lib.hid (show Blk ((((w2.setCell ⟨G + 1, 0, none⟩ (.int .i64 0)).setCell ⟨G + 1, 1, none⟩ (.int .i64 0)).setCell ⟨G + 1, 2, none⟩ (.slice none 0 0)).setCell ⟨G + 1, 3, none⟩ (.int .i64 1)) (G + 1) 47 #[.int .i64 0, .int .i64 0, .slice none 0 0, .int .i64 1] from Kr.out.set_ 3 (.int .i64 1))
  replace B := Lib.hid (show Below w.heap.size w ((((w2.setCell ⟨G + 1, 0, none⟩ (.int .i64 0)).setCell ⟨G + 1, 1, none⟩ (.int .i64 0)).setCell ⟨G + 1, 2, none⟩ (.slice none 0 0)).setCell ⟨G + 1, 3, none⟩ (.int .i64 1)) from B.out.setCell (p := ⟨G + 1, 3, none⟩) (show w.heap.size ≤ G + 1 by have := HG.out; omega) (.int .i64 1))
  go_wp2
  generalize hw : ((((w2.setCell ⟨G + 1, 0, none⟩ (.int .i64 0)).setCell ⟨G + 1, 1, none⟩ (.int .i64 0)).setCell ⟨G + 1, 2, none⟩ (.slice none 0 0)).setCell ⟨G + 1, 3, none⟩ (.int .i64 1)) = w3 at Kr  B ⊢
  clear bgc0 bgc1 bgc2 brc0 brc1 brc2 brc3 fzr
  clear hw
  obtain ⟨d0, d1, d2, d3⟩ := four Kr.out
  refine bodyPost_ret (by simp [results, Tryd.results16, go_sem, d0, d1, d2, d3]; try rfl) rfl ?_
  exact ⟨rfl, B.out⟩
set_option maxRecDepth 100000 in
set_option maxHeartbeats 2000000 in
theorem rconf_keep (la mo : Int) (a : Option Addr) (c : Nat) (l : List Gr) (n ep : Int) (w : World) (hp : GrA w a l) (hm : l.length ≤ 10000) (ok : GsOk la mo l)(hs : 0 ≤ n ∧ n < 64) (h1 : ¬ ep < 0) (h2 : ¬ la < ep) (h3 : ep ≤ (rowL n l).2.1) :
    Calls Tryd.prog 16 #[.agg #[.int .i64 la, .int .i64 mo, .slice a l.length c], .int .i64 n, .int .i64 ep] w fun e w' => e = .returned (.agg #[.int .i64 la, .int .i64 mo, .slice a l.length c, .int .i64 0]) ∧ Below w.heap.size w w' := by
  have HP := Lib.hid hp
  have VA := Lib.hid (fun (X : World) (h : GrA X a l) => rvalid_any la mo a c l X h (by omega))
  have ev : validB la mo l = true := decide_eq_true ok
  rw [ev] at VA
  have SI := Lib.hid (fun (X : World) => rsite_yes hs X)
  have t1 : decide (ep < 0) = false := decide_eq_false h1
  have t2 : decide (la < ep) = false := decide_eq_false h2
  have FI := Lib.hid (fun (X : World) (h : GrA X a l) => find_any la mo a c l n X h ok.ord (by omega))
  have RS := Lib.hid (rowL_site n l)
  skip
  obtain ⟨⟨x1, x2, x3⟩, hx⟩ : ∃ x, rowL n l = x := ⟨_, rfl⟩
  rw [hx] at FI RS h3
  have e1 : x1 = n := RS.out
  subst e1
  simp only [encG] at FI
  clear hx RS
  have h3b : ep ≤ x2 := h3
  have t3 : decide (ep ≤ x2) = true := decide_eq_true h3b
  obtain ⟨N, hN⟩ : ∃ N, l.length = N := ⟨_, rfl⟩
  have HE := Lib.hid hN
  simp only [hN] at VA FI
  rw [hN]
  clear hN hp hm ev ok hs h1 h2 h3 h3b
  go_enter Tryd.func16, Tryd.ntmps16
  obtain ⟨G, hG⟩ : ∃ G, w.heap.size = G := ⟨_, rfl⟩
  have HG := Lib.hid hG
  obtain ⟨w0, hw0, Kg, Kr, B⟩ : ∃ X, ((w.alloc (.cells #[.int .i64 la, .int .i64 mo, .slice a N c] 24)).alloc (.cells #[.int .i64 0, .int .i64 0, .slice none 0 0, .int .i64 0] 47)) = X ∧ Hid (Blk X (G) 24 #[.int .i64 la, .int .i64 mo, .slice a N c]) ∧ Hid (Blk X (G + 1) 47 #[.int .i64 0, .int .i64 0, .slice none 0 0, .int .i64 0]) ∧ Hid (Below w.heap.size w X) := ⟨_, rfl, Lib.hid ((Blk.new' _ _ _ _ hG rfl).alloc _), Lib.hid (Blk.new' _ _ _ _ (by rw [World.size_alloc, hG]) rfl), Lib.hid (by (repeat' (first | (with_reducible exact Below.refl _ _) | (with_reducible assumption) | (with_reducible refine Below.alloc ?_ ?_ _) | (with_reducible refine Below.drew ?_) | (with_reducible refine below_dn ?_) | (with_reducible refine Below.setCell ?_ ?_ _) | (with_reducible exact Nat.le_refl _) | omega | (simp only [World.size_alloc, World.size_setCell, World.size_drew]; omega) | (simp; omega) | (simp; done))))⟩
  go_upto_region 1 with (fail)
  try rw [hG]
  try rw [hw0]
  clear hw0 hG
  obtain ⟨bgc0, bgc1, bgc2⟩ := three Kg.out
  obtain ⟨brc0, brc1, brc2, brc3⟩ := four Kr.out
  go_wp2_with fail
  refine (VA.out _ (HP.out.mono B.out)).mono ?_
  rintro e w1 ⟨rfl, hb⟩
  replace Kg := Lib.hid (Kg.out.below hb Kg.out.lt)
  replace Kr := Lib.hid (Kr.out.below hb Kr.out.lt)
  replace B := Lib.hid (B.out.trans (hb.mono B.out.size))
  clear bgc0 bgc1 bgc2 brc0 brc1 brc2 brc3
  clear hb
  obtain ⟨bgc0, bgc1, bgc2⟩ := three Kg.out
  obtain ⟨brc0, brc1, brc2, brc3⟩ := four Kr.out
  clear bgc0 bgc1 bgc2 brc0 brc1 brc2 brc3
  obtain ⟨bgc0, bgc1, bgc2⟩ := three Kg.out
  obtain ⟨brc0, brc1, brc2, brc3⟩ := four Kr.out
  go_wp2_with fail
  refine (SI.out _).mono ?_
  rintro e w2 ⟨rfl, hb⟩
  replace Kg := Lib.hid (Kg.out.below hb Kg.out.lt)
  replace Kr := Lib.hid (Kr.out.below hb Kr.out.lt)
  replace B := Lib.hid (B.out.trans (hb.mono B.out.size))
  clear bgc0 bgc1 bgc2 brc0 brc1 brc2 brc3
  clear hb
  obtain ⟨bgc0, bgc1, bgc2⟩ := three Kg.out
  obtain ⟨brc0, brc1, brc2, brc3⟩ := four Kr.out
  clear bgc0 bgc1 bgc2 brc0 brc1 brc2 brc3
  obtain ⟨bgc0, bgc1, bgc2⟩ := three Kg.out
  obtain ⟨brc0, brc1, brc2, brc3⟩ := four Kr.out
  go_wp2_with fail
  refine (FI.out _ (HP.out.mono B.out)).mono ?_
  rintro e w3 ⟨rfl, hb⟩
  replace Kg := Lib.hid (Kg.out.below hb Kg.out.lt)
  replace Kr := Lib.hid (Kr.out.below hb Kr.out.lt)
  replace B := Lib.hid (B.out.trans (hb.mono B.out.size))
  clear bgc0 bgc1 bgc2 brc0 brc1 brc2 brc3
  clear hb
  obtain ⟨bgc0, bgc1, bgc2⟩ := three Kg.out
  obtain ⟨brc0, brc1, brc2, brc3⟩ := four Kr.out
  obtain ⟨gx, hgx⟩ : ∃ G, w3.heap.size = G := ⟨_, rfl⟩
  have Kx := Lib.hid (show Blk (w3.alloc (.cells #[.int .i64 x1, .int .i64 x2, .int .i64 x3] 88)) gx 88 #[.int .i64 x1, .int .i64 x2, .int .i64 x3] from Blk.new' w3 _ _ _ hgx rfl)
  have Ngx := Lib.hid (show G < gx from by rw [← hgx]; exact Kg.out.lt)
  replace Kg := Lib.hid (Kg.out.alloc (.cells #[.int .i64 x1, .int .i64 x2, .int .i64 x3] 88))
  have Nrx := Lib.hid (show G + 1 < gx from by rw [← hgx]; exact Kr.out.lt)
  replace Kr := Lib.hid (Kr.out.alloc (.cells #[.int .i64 x1, .int .i64 x2, .int .i64 x3] 88))
  have Lx := Lib.hid (show w.heap.size ≤ gx from by rw [← hgx]; exact B.out.size)
  replace B := Lib.hid (B.out.alloc B.out.size (.cells #[.int .i64 x1, .int .i64 x2, .int .i64 x3] 88))
  go_upto_region 4 with (fail)
  try rw [hgx]
  generalize hw : w3.alloc (.cells #[.int .i64 x1, .int .i64 x2, .int .i64 x3] 88) = w4 at Kg Kr Kx  B ⊢
  clear bgc0 bgc1 bgc2 brc0 brc1 brc2 brc3
  clear hw hgx
  obtain ⟨bgc0, bgc1, bgc2⟩ := three Kg.out
  obtain ⟨brc0, brc1, brc2, brc3⟩ := four Kr.out
  obtain ⟨bxc0, bxc1, bxc2⟩ := three Kx.out
  clear bgc0 bgc1 bgc2 brc0 brc1 brc2 brc3 bxc0 bxc1 bxc2
  obtain ⟨bgc0, bgc1, bgc2⟩ := three Kg.out
  obtain ⟨brc0, brc1, brc2, brc3⟩ := four Kr.out
  obtain ⟨bxc0, bxc1, bxc2⟩ := three Kx.out
  have fzr := fun q => Kr.out.frozen q
  replace Kr := Lib.hid (show Blk (w4.setCell ⟨G + 1, 0, none⟩ (.int .i64 la)) (G + 1) 47 #[.int .i64 la, .int .i64 0, .slice none 0 0, .int .i64 0] from Kr.out.set_ 0 (.int .i64 la))
  replace B := Lib.hid (show Below w.heap.size w (w4.setCell ⟨G + 1, 0, none⟩ (.int .i64 la)) from B.out.setCell (p := ⟨G + 1, 0, none⟩) (show w.heap.size ≤ G + 1 by have := HG.out; omega) (.int .i64 la))
  replace Kr := Lib.hid (show Blk ((w4.setCell ⟨G + 1, 0, none⟩ (.int .i64 la)).setCell ⟨G + 1, 1, none⟩ (.int .i64 mo)) (G + 1) 47 #[.int .i64 la, .int .i64 mo, .slice none 0 0, .int .i64 0] from Kr.out.set_ 1 (.int .i64 mo))
  replace B := Lib.hid (show Below w.heap.size w ((w4.setCell ⟨G + 1, 0, none⟩ (.int .i64 la)).setCell ⟨G + 1, 1, none⟩ (.int .i64 mo)) from B.out.setCell (p := ⟨G + 1, 1, none⟩) (show w.heap.size ≤ G + 1 by have := HG.out; omega) (.int .i64 mo))
  replace Kr := Lib.hid (show Blk (((w4.setCell ⟨G + 1, 0, none⟩ (.int .i64 la)).setCell ⟨G + 1, 1, none⟩ (.int .i64 mo)).setCell ⟨G + 1, 2, none⟩ (.slice a N c)) (G + 1) 47 #[.int .i64 la, .int .i64 mo, .slice a N c, .int .i64 0] from Kr.out.set_ 2 (.slice a N c))
  replace B := Lib.hid (show Below w.heap.size w (((w4.setCell ⟨G + 1, 0, none⟩ (.int .i64 la)).setCell ⟨G + 1, 1, none⟩ (.int .i64 mo)).setCell ⟨G + 1, 2, none⟩ (.slice a N c)) from B.out.setCell (p := ⟨G + 1, 2, none⟩) (show w.heap.size ≤ G + 1 by have := HG.out; omega) (.slice a N c))
  replace Kr := Lib.hid (show Blk ((((w4.setCell ⟨G + 1, 0, none⟩ (.int .i64 la)).setCell ⟨G + 1, 1, none⟩ (.int .i64 mo)).setCell ⟨G + 1, 2, none⟩ (.slice a N c)).setCell ⟨G + 1, 3, none⟩ (.int .i64 0)) (G + 1) 47 #[.int .i64 la, .int .i64 mo, .slice a N c, .int .i64 0] from Kr.out.set_ 3 (.int .i64 0))
  replace B := Lib.hid (show Below w.heap.size w ((((w4.setCell ⟨G + 1, 0, none⟩ (.int .i64 la)).setCell ⟨G + 1, 1, none⟩ (.int .i64 mo)).setCell ⟨G + 1, 2, none⟩ (.slice a N c)).setCell ⟨G + 1, 3, none⟩ (.int .i64 0)) from B.out.setCell (p := ⟨G + 1, 3, none⟩) (show w.heap.size ≤ G + 1 by have := HG.out; omega) (.int .i64 0))
  go_wp2
  generalize hw : ((((w4.setCell ⟨G + 1, 0, none⟩ (.int .i64 la)).setCell ⟨G + 1, 1, none⟩ (.int .i64 mo)).setCell ⟨G + 1, 2, none⟩ (.slice a N c)).setCell ⟨G + 1, 3, none⟩ (.int .i64 0)) = w5 at Kr  B ⊢
  clear bgc0 bgc1 bgc2 brc0 brc1 brc2 brc3 bxc0 bxc1 bxc2 fzr
  clear hw
  obtain ⟨d0, d1, d2, d3⟩ := four Kr.out
  refine bodyPost_ret (by simp [results, Tryd.results16, go_sem, d0, d1, d2, d3]; try rfl) rfl ?_
  exact ⟨rfl, B.out⟩
set_option maxRecDepth 100000 in
set_option maxHeartbeats 2000000 in
theorem rconf_put (la mo : Int) (a : Option Addr) (c : Nat) (l : List Gr) (n ep : Int) (w : World) (hp : GrA w a l) (hm : l.length ≤ 10000) (ok : GsOk la mo l)(hs : 0 ≤ n ∧ n < 64) (h1 : ¬ ep < 0) (h2 : ¬ la < ep) (h3 : ¬ ep ≤ (rowL n l).2.1) :
    Calls Tryd.prog 16 #[.agg #[.int .i64 la, .int .i64 mo, .slice a l.length c], .int .i64 n, .int .i64 ep] w fun e w' => (∃ a' c', e = .returned (.agg #[.int .i64 la, .int .i64 mo, .slice a' (withL (n, ep, (rowL n l).2.2) l).length c', .int .i64 0]) ∧ GrA w' a' (withL (n, ep, (rowL n l).2.2) l)) ∧ Below w.heap.size w w' := by
  have HP := Lib.hid hp
  have VA := Lib.hid (fun (X : World) (h : GrA X a l) => rvalid_any la mo a c l X h (by omega))
  have ev : validB la mo l = true := decide_eq_true ok
  rw [ev] at VA
  have SI := Lib.hid (fun (X : World) => rsite_yes hs X)
  have t1 : decide (ep < 0) = false := decide_eq_false h1
  have t2 : decide (la < ep) = false := decide_eq_false h2
  have FI := Lib.hid (fun (X : World) (h : GrA X a l) => find_any la mo a c l n X h ok.ord (by omega))
  have RS := Lib.hid (rowL_site n l)
  have PW := Lib.hid (show putL l (n, ep, (rowL n l).2.2) = withL (n, ep, (rowL n l).2.2) l from put_with ok.ord _ (fun q => by have := (rowL_ok ok hs).2.1.1; injection q with q1 q2; injection q2 with q3 q4; omega))
  obtain ⟨⟨x1, x2, x3⟩, hx⟩ : ∃ x, rowL n l = x := ⟨_, rfl⟩
  rw [hx] at FI RS h3 PW ⊢
  have e1 : x1 = n := RS.out
  subst e1
  simp only [encG] at FI
  clear hx RS
  have h3b : ¬ ep ≤ x2 := h3
  have t3 : decide (ep ≤ x2) = false := decide_eq_false h3b
  have PT := Lib.hid (fun (X : World) (h : GrA X a l) => put_any la mo a c l (x1, ep, x3) X h hm)
  simp only at PW ⊢
  rw [PW.out] at PT
  simp only [encG] at PT
  obtain ⟨L2, hL2⟩ : ∃ L, withL (x1, ep, x3) l = L := ⟨_, rfl⟩
  rw [hL2]
  simp only [hL2] at PT
  clear hL2 PW
  obtain ⟨N, hN⟩ : ∃ N, l.length = N := ⟨_, rfl⟩
  have HE := Lib.hid hN
  simp only [hN] at VA FI PT
  rw [hN]
  clear hN hp hm ev ok hs h1 h2 h3 h3b
  go_enter Tryd.func16, Tryd.ntmps16
  obtain ⟨G, hG⟩ : ∃ G, w.heap.size = G := ⟨_, rfl⟩
  have HG := Lib.hid hG
  obtain ⟨w0, hw0, Kg, Kr, B⟩ : ∃ X, ((w.alloc (.cells #[.int .i64 la, .int .i64 mo, .slice a N c] 24)).alloc (.cells #[.int .i64 0, .int .i64 0, .slice none 0 0, .int .i64 0] 47)) = X ∧ Hid (Blk X (G) 24 #[.int .i64 la, .int .i64 mo, .slice a N c]) ∧ Hid (Blk X (G + 1) 47 #[.int .i64 0, .int .i64 0, .slice none 0 0, .int .i64 0]) ∧ Hid (Below w.heap.size w X) := ⟨_, rfl, Lib.hid ((Blk.new' _ _ _ _ hG rfl).alloc _), Lib.hid (Blk.new' _ _ _ _ (by rw [World.size_alloc, hG]) rfl), Lib.hid (by (repeat' (first | (with_reducible exact Below.refl _ _) | (with_reducible assumption) | (with_reducible refine Below.alloc ?_ ?_ _) | (with_reducible refine Below.drew ?_) | (with_reducible refine below_dn ?_) | (with_reducible refine Below.setCell ?_ ?_ _) | (with_reducible exact Nat.le_refl _) | omega | (simp only [World.size_alloc, World.size_setCell, World.size_drew]; omega) | (simp; omega) | (simp; done))))⟩
  go_upto_region 1 with (fail)
  try rw [hG]
  try rw [hw0]
  clear hw0 hG
  obtain ⟨bgc0, bgc1, bgc2⟩ := three Kg.out
  obtain ⟨brc0, brc1, brc2, brc3⟩ := four Kr.out
  go_wp2_with fail
  refine (VA.out _ (HP.out.mono B.out)).mono ?_
  rintro e w1 ⟨rfl, hb⟩
  replace Kg := Lib.hid (Kg.out.below hb Kg.out.lt)
  replace Kr := Lib.hid (Kr.out.below hb Kr.out.lt)
  replace B := Lib.hid (B.out.trans (hb.mono B.out.size))
  clear bgc0 bgc1 bgc2 brc0 brc1 brc2 brc3
  clear hb
  obtain ⟨bgc0, bgc1, bgc2⟩ := three Kg.out
  obtain ⟨brc0, brc1, brc2, brc3⟩ := four Kr.out
  clear bgc0 bgc1 bgc2 brc0 brc1 brc2 brc3
  obtain ⟨bgc0, bgc1, bgc2⟩ := three Kg.out
  obtain ⟨brc0, brc1, brc2, brc3⟩ := four Kr.out
  go_wp2_with fail
  refine (SI.out _).mono ?_
  rintro e w2 ⟨rfl, hb⟩
  replace Kg := Lib.hid (Kg.out.below hb Kg.out.lt)
  replace Kr := Lib.hid (Kr.out.below hb Kr.out.lt)
  replace B := Lib.hid (B.out.trans (hb.mono B.out.size))
  clear bgc0 bgc1 bgc2 brc0 brc1 brc2 brc3
  clear hb
  obtain ⟨bgc0, bgc1, bgc2⟩ := three Kg.out
  obtain ⟨brc0, brc1, brc2, brc3⟩ := four Kr.out
  clear bgc0 bgc1 bgc2 brc0 brc1 brc2 brc3
  obtain ⟨bgc0, bgc1, bgc2⟩ := three Kg.out
  obtain ⟨brc0, brc1, brc2, brc3⟩ := four Kr.out
  go_wp2_with fail
  refine (FI.out _ (HP.out.mono B.out)).mono ?_
  rintro e w3 ⟨rfl, hb⟩
  replace Kg := Lib.hid (Kg.out.below hb Kg.out.lt)
  replace Kr := Lib.hid (Kr.out.below hb Kr.out.lt)
  replace B := Lib.hid (B.out.trans (hb.mono B.out.size))
  clear bgc0 bgc1 bgc2 brc0 brc1 brc2 brc3
  clear hb
  obtain ⟨bgc0, bgc1, bgc2⟩ := three Kg.out
  obtain ⟨brc0, brc1, brc2, brc3⟩ := four Kr.out
  obtain ⟨gx, hgx⟩ : ∃ G, w3.heap.size = G := ⟨_, rfl⟩
  have Kx := Lib.hid (show Blk (w3.alloc (.cells #[.int .i64 x1, .int .i64 x2, .int .i64 x3] 88)) gx 88 #[.int .i64 x1, .int .i64 x2, .int .i64 x3] from Blk.new' w3 _ _ _ hgx rfl)
  have Ngx := Lib.hid (show G < gx from by rw [← hgx]; exact Kg.out.lt)
  replace Kg := Lib.hid (Kg.out.alloc (.cells #[.int .i64 x1, .int .i64 x2, .int .i64 x3] 88))
  have Nrx := Lib.hid (show G + 1 < gx from by rw [← hgx]; exact Kr.out.lt)
  replace Kr := Lib.hid (Kr.out.alloc (.cells #[.int .i64 x1, .int .i64 x2, .int .i64 x3] 88))
  have Lx := Lib.hid (show w.heap.size ≤ gx from by rw [← hgx]; exact B.out.size)
  replace B := Lib.hid (B.out.alloc B.out.size (.cells #[.int .i64 x1, .int .i64 x2, .int .i64 x3] 88))
  go_upto_region 4 with (fail)
  try rw [hgx]
  generalize hw : w3.alloc (.cells #[.int .i64 x1, .int .i64 x2, .int .i64 x3] 88) = w4 at Kg Kr Kx  B ⊢
  clear bgc0 bgc1 bgc2 brc0 brc1 brc2 brc3
  clear hw hgx
  obtain ⟨bgc0, bgc1, bgc2⟩ := three Kg.out
  obtain ⟨brc0, brc1, brc2, brc3⟩ := four Kr.out
  obtain ⟨bxc0, bxc1, bxc2⟩ := three Kx.out
  clear bgc0 bgc1 bgc2 brc0 brc1 brc2 brc3 bxc0 bxc1 bxc2
  obtain ⟨bgc0, bgc1, bgc2⟩ := three Kg.out
  obtain ⟨brc0, brc1, brc2, brc3⟩ := four Kr.out
  obtain ⟨bxc0, bxc1, bxc2⟩ := three Kx.out
  have fzx := fun q => Kx.out.frozen q
  replace Kx := Lib.hid (show Blk (w4.setCell ⟨gx, 1, none⟩ (.int .i64 ep)) (gx) 88 #[.int .i64 x1, .int .i64 ep, .int .i64 x3] from Kx.out.set_ 1 (.int .i64 ep))
  replace Kg := Lib.hid (show Blk (w4.setCell ⟨gx, 1, none⟩ (.int .i64 ep)) (G) _ _ from Kg.out.far (p := ⟨gx, 1, none⟩) (by have := Ngx.out; show G ≠ gx; omega) (.int .i64 ep))
  replace Kr := Lib.hid (show Blk (w4.setCell ⟨gx, 1, none⟩ (.int .i64 ep)) (G + 1) _ _ from Kr.out.far (p := ⟨gx, 1, none⟩) (by have := Nrx.out; show G + 1 ≠ gx; omega) (.int .i64 ep))
  replace B := Lib.hid (show Below w.heap.size w (w4.setCell ⟨gx, 1, none⟩ (.int .i64 ep)) from B.out.setCell (p := ⟨gx, 1, none⟩) Lx.out (.int .i64 ep))
  go_upto_region 7 with (fail)
  generalize hw : (w4.setCell ⟨gx, 1, none⟩ (.int .i64 ep)) = w5 at Kg Kr Kx B ⊢
  clear bgc0 bgc1 bgc2 brc0 brc1 brc2 brc3 bxc0 bxc1 bxc2 fzx
  clear hw
  obtain ⟨bgc0, bgc1, bgc2⟩ := three Kg.out
  obtain ⟨brc0, brc1, brc2, brc3⟩ := four Kr.out
  obtain ⟨bxc0, bxc1, bxc2⟩ := three Kx.out
  have Qr := Lib.hid Kr.out.lt
  go_wp2_with fail
  refine (PT.out _ (HP.out.mono B.out)).mono ?_
  rintro e w6 ⟨⟨a6, c6, rfl, hr, hf⟩, hb⟩
  have Z6 := Lib.hid hr
  have F6 := Lib.hid hf
  replace Kg := Lib.hid (Kg.out.below hb Kg.out.lt)
  replace Kr := Lib.hid (Kr.out.below hb Kr.out.lt)
  replace Kx := Lib.hid (Kx.out.below hb Kx.out.lt)
  replace B := Lib.hid (B.out.trans (hb.mono B.out.size))
  clear bgc0 bgc1 bgc2 brc0 brc1 brc2 brc3 bxc0 bxc1 bxc2
  clear hb hr hf
  obtain ⟨bgc0, bgc1, bgc2⟩ := three Kg.out
  obtain ⟨brc0, brc1, brc2, brc3⟩ := four Kr.out
  obtain ⟨bxc0, bxc1, bxc2⟩ := three Kx.out
  have R6 := Z6
  clear Z6
  have E6r := Lib.hid (show ∀ p, a6 = some p → p.block ≠ G + 1 from fun p hp => by have h1 := F6.out p hp; have h2 := Qr.out; omega)
  clear F6 Qr
  clear bgc0 bgc1 bgc2 brc0 brc1 brc2 brc3 bxc0 bxc1 bxc2
  obtain ⟨bgc0, bgc1, bgc2⟩ := three Kg.out
  obtain ⟨brc0, brc1, brc2, brc3⟩ := four Kr.out
  obtain ⟨bxc0, bxc1, bxc2⟩ := three Kx.out
  have fzr := fun q => Kr.out.frozen q
  replace Kr := Lib.hid (show Blk (w6.setCell ⟨G + 1, 0, none⟩ (.int .i64 la)) (G + 1) 47 #[.int .i64 la, .int .i64 0, .slice none 0 0, .int .i64 0] from Kr.out.set_ 0 (.int .i64 la))
  replace R6 := Lib.hid (RowsA.far R6.out (p := ⟨G + 1, 0, none⟩) E6r.out (.int .i64 la))
  replace B := Lib.hid (show Below w.heap.size w (w6.setCell ⟨G + 1, 0, none⟩ (.int .i64 la)) from B.out.setCell (p := ⟨G + 1, 0, none⟩) (show w.heap.size ≤ G + 1 by have := HG.out; omega) (.int .i64 la))
  replace Kr := Lib.hid (show Blk ((w6.setCell ⟨G + 1, 0, none⟩ (.int .i64 la)).setCell ⟨G + 1, 1, none⟩ (.int .i64 mo)) (G + 1) 47 #[.int .i64 la, .int .i64 mo, .slice none 0 0, .int .i64 0] from Kr.out.set_ 1 (.int .i64 mo))
  replace R6 := Lib.hid (RowsA.far R6.out (p := ⟨G + 1, 1, none⟩) E6r.out (.int .i64 mo))
  replace B := Lib.hid (show Below w.heap.size w ((w6.setCell ⟨G + 1, 0, none⟩ (.int .i64 la)).setCell ⟨G + 1, 1, none⟩ (.int .i64 mo)) from B.out.setCell (p := ⟨G + 1, 1, none⟩) (show w.heap.size ≤ G + 1 by have := HG.out; omega) (.int .i64 mo))
  replace Kr := Lib.hid (show Blk (((w6.setCell ⟨G + 1, 0, none⟩ (.int .i64 la)).setCell ⟨G + 1, 1, none⟩ (.int .i64 mo)).setCell ⟨G + 1, 2, none⟩ (.slice a6 L2.length c6)) (G + 1) 47 #[.int .i64 la, .int .i64 mo, .slice a6 L2.length c6, .int .i64 0] from Kr.out.set_ 2 (.slice a6 L2.length c6))
  replace R6 := Lib.hid (RowsA.far R6.out (p := ⟨G + 1, 2, none⟩) E6r.out (.slice a6 L2.length c6))
  replace B := Lib.hid (show Below w.heap.size w (((w6.setCell ⟨G + 1, 0, none⟩ (.int .i64 la)).setCell ⟨G + 1, 1, none⟩ (.int .i64 mo)).setCell ⟨G + 1, 2, none⟩ (.slice a6 L2.length c6)) from B.out.setCell (p := ⟨G + 1, 2, none⟩) (show w.heap.size ≤ G + 1 by have := HG.out; omega) (.slice a6 L2.length c6))
  replace Kr := Lib.hid (show Blk ((((w6.setCell ⟨G + 1, 0, none⟩ (.int .i64 la)).setCell ⟨G + 1, 1, none⟩ (.int .i64 mo)).setCell ⟨G + 1, 2, none⟩ (.slice a6 L2.length c6)).setCell ⟨G + 1, 3, none⟩ (.int .i64 0)) (G + 1) 47 #[.int .i64 la, .int .i64 mo, .slice a6 L2.length c6, .int .i64 0] from Kr.out.set_ 3 (.int .i64 0))
  replace R6 := Lib.hid (RowsA.far R6.out (p := ⟨G + 1, 3, none⟩) E6r.out (.int .i64 0))
  replace B := Lib.hid (show Below w.heap.size w ((((w6.setCell ⟨G + 1, 0, none⟩ (.int .i64 la)).setCell ⟨G + 1, 1, none⟩ (.int .i64 mo)).setCell ⟨G + 1, 2, none⟩ (.slice a6 L2.length c6)).setCell ⟨G + 1, 3, none⟩ (.int .i64 0)) from B.out.setCell (p := ⟨G + 1, 3, none⟩) (show w.heap.size ≤ G + 1 by have := HG.out; omega) (.int .i64 0))
  go_wp2
  generalize hw : ((((w6.setCell ⟨G + 1, 0, none⟩ (.int .i64 la)).setCell ⟨G + 1, 1, none⟩ (.int .i64 mo)).setCell ⟨G + 1, 2, none⟩ (.slice a6 L2.length c6)).setCell ⟨G + 1, 3, none⟩ (.int .i64 0)) = w7 at Kr R6 B ⊢
  clear bgc0 bgc1 bgc2 brc0 brc1 brc2 brc3 bxc0 bxc1 bxc2 fzr
  clear hw
  obtain ⟨d0, d1, d2, d3⟩ := four Kr.out
  refine bodyPost_ret (by simp [results, Tryd.results16, go_sem, d0, d1, d2, d3]; try rfl) rfl ?_
  exact ⟨⟨a6, c6, rfl, R6.out⟩, B.out⟩
set_option maxRecDepth 100000 in
set_option maxHeartbeats 2000000 in
theorem rdead_bad (la mo : Int) (a : Option Addr) (c : Nat) (l : List Gr) (ep : Int) (w : World) (hp : GrA w a l) (hm : l.length ≤ 10000) (bad : validB la mo l = false) :
    Calls Tryd.prog 18 #[.agg #[.int .i64 la, .int .i64 mo, .slice a l.length c], .int .i64 ep] w fun e w' => e = .returned (.agg #[.int .i64 0, .int .i64 1]) ∧ Below w.heap.size w w' := by
  have HP := Lib.hid hp
  have VA := Lib.hid (fun (X : World) (h : GrA X a l) => rvalid_any la mo a c l X h (by omega))
  rw [bad] at VA
  obtain ⟨N, hN⟩ : ∃ N, l.length = N := ⟨_, rfl⟩
  have HE := Lib.hid hN
  simp only [hN] at VA
  rw [hN]
  clear hN hp hm bad
  go_enter Tryd.func18, Tryd.ntmps18
  obtain ⟨G, hG⟩ : ∃ G, w.heap.size = G := ⟨_, rfl⟩
  have HG := Lib.hid hG
  obtain ⟨w0, hw0, Kg, Kr, B⟩ : ∃ X, ((w.alloc (.cells #[.int .i64 la, .int .i64 mo, .slice a N c] 24)).alloc (.cells #[.int .i64 0, .int .i64 0] 55)) = X ∧ Hid (Blk X (G) 24 #[.int .i64 la, .int .i64 mo, .slice a N c]) ∧ Hid (Blk X (G + 1) 55 #[.int .i64 0, .int .i64 0]) ∧ Hid (Below w.heap.size w X) := ⟨_, rfl, Lib.hid ((Blk.new' _ _ _ _ hG rfl).alloc _), Lib.hid (Blk.new' _ _ _ _ (by rw [World.size_alloc, hG]) rfl), Lib.hid (by (repeat' (first | (with_reducible exact Below.refl _ _) | (with_reducible assumption) | (with_reducible refine Below.alloc ?_ ?_ _) | (with_reducible refine Below.drew ?_) | (with_reducible refine below_dn ?_) | (with_reducible refine Below.setCell ?_ ?_ _) | (with_reducible exact Nat.le_refl _) | omega | (simp only [World.size_alloc, World.size_setCell, World.size_drew]; omega) | (simp; omega) | (simp; done))))⟩
  go_upto_region 1 with (fail)
  try rw [hG]
  try rw [hw0]
  clear hw0 hG
  obtain ⟨bgc0, bgc1, bgc2⟩ := three Kg.out
  obtain ⟨brc0, brc1⟩ := twob Kr.out
  go_wp2_with fail
  refine (VA.out _ (HP.out.mono B.out)).mono ?_
  rintro e w1 ⟨rfl, hb⟩
  replace Kg := Lib.hid (Kg.out.below hb Kg.out.lt)
  replace Kr := Lib.hid (Kr.out.below hb Kr.out.lt)
  replace B := Lib.hid (B.out.trans (hb.mono B.out.size))
  clear bgc0 bgc1 bgc2 brc0 brc1
  clear hb
  obtain ⟨bgc0, bgc1, bgc2⟩ := three Kg.out
  obtain ⟨brc0, brc1⟩ := twob Kr.out
  clear bgc0 bgc1 bgc2 brc0 brc1
  obtain ⟨bgc0, bgc1, bgc2⟩ := three Kg.out
  obtain ⟨brc0, brc1⟩ := twob Kr.out
  clear bgc0 bgc1 bgc2 brc0 brc1
  obtain ⟨bgc0, bgc1, bgc2⟩ := three Kg.out
  obtain ⟨brc0, brc1⟩ := twob Kr.out
  have fzr := fun q => Kr.out.frozen q
  replace Kr := Lib.hid (show Blk (w1.setCell ⟨G + 1, 0, none⟩ (.int .i64 0)) (G + 1) 55 #[.int .i64 0, .int .i64 0] from Kr.out.set_ 0 (.int .i64 0))
  replace B := Lib.hid (show Below w.heap.size w (w1.setCell ⟨G + 1, 0, none⟩ (.int .i64 0)) from B.out.setCell (p := ⟨G + 1, 0, none⟩) (show w.heap.size ≤ G + 1 by have := HG.out; omega) (.int .i64 0))
  replace Kr := Lib.hid (show Blk ((w1.setCell ⟨G + 1, 0, none⟩ (.int .i64 0)).setCell ⟨G + 1, 1, none⟩ (.int .i64 1)) (G + 1) 55 #[.int .i64 0, .int .i64 1] from Kr.out.set_ 1 (.int .i64 1))
  replace B := Lib.hid (show Below w.heap.size w ((w1.setCell ⟨G + 1, 0, none⟩ (.int .i64 0)).setCell ⟨G + 1, 1, none⟩ (.int .i64 1)) from B.out.setCell (p := ⟨G + 1, 1, none⟩) (show w.heap.size ≤ G + 1 by have := HG.out; omega) (.int .i64 1))
  go_wp2
  generalize hw : ((w1.setCell ⟨G + 1, 0, none⟩ (.int .i64 0)).setCell ⟨G + 1, 1, none⟩ (.int .i64 1)) = w2 at Kr  B ⊢
  clear bgc0 bgc1 bgc2 brc0 brc1 fzr
  clear hw
  obtain ⟨d0, d1⟩ := twob Kr.out
  refine bodyPost_ret (by simp [results, Tryd.results18, go_sem, d0, d1]; try rfl) rfl ?_
  exact ⟨rfl, B.out⟩
set_option maxRecDepth 100000 in
set_option maxHeartbeats 2000000 in
theorem rdead_neg (la mo : Int) (a : Option Addr) (c : Nat) (l : List Gr) (ep : Int) (w : World) (hp : GrA w a l) (hm : l.length ≤ 10000) (ok : GsOk la mo l) (h1 : ep < 1) :
    Calls Tryd.prog 18 #[.agg #[.int .i64 la, .int .i64 mo, .slice a l.length c], .int .i64 ep] w fun e w' => e = .returned (.agg #[.int .i64 0, .int .i64 1]) ∧ Below w.heap.size w w' := by
  have HP := Lib.hid hp
  have VA := Lib.hid (fun (X : World) (h : GrA X a l) => rvalid_any la mo a c l X h (by omega))
  have ev : validB la mo l = true := decide_eq_true ok
  rw [ev] at VA
  have FW := Lib.hid ok.few
  have t1 : decide (ep < 1) = true := decide_eq_true h1
  obtain ⟨N, hN⟩ : ∃ N, l.length = N := ⟨_, rfl⟩
  have HE := Lib.hid hN
  simp only [hN] at VA FW
  rw [hN]
  clear hN hp hm ev ok h1
  go_enter Tryd.func18, Tryd.ntmps18
  obtain ⟨G, hG⟩ : ∃ G, w.heap.size = G := ⟨_, rfl⟩
  have HG := Lib.hid hG
  obtain ⟨w0, hw0, Kg, Kr, B⟩ : ∃ X, ((w.alloc (.cells #[.int .i64 la, .int .i64 mo, .slice a N c] 24)).alloc (.cells #[.int .i64 0, .int .i64 0] 55)) = X ∧ Hid (Blk X (G) 24 #[.int .i64 la, .int .i64 mo, .slice a N c]) ∧ Hid (Blk X (G + 1) 55 #[.int .i64 0, .int .i64 0]) ∧ Hid (Below w.heap.size w X) := ⟨_, rfl, Lib.hid ((Blk.new' _ _ _ _ hG rfl).alloc _), Lib.hid (Blk.new' _ _ _ _ (by rw [World.size_alloc, hG]) rfl), Lib.hid (by (repeat' (first | (with_reducible exact Below.refl _ _) | (with_reducible assumption) | (with_reducible refine Below.alloc ?_ ?_ _) | (with_reducible refine Below.drew ?_) | (with_reducible refine below_dn ?_) | (with_reducible refine Below.setCell ?_ ?_ _) | (with_reducible exact Nat.le_refl _) | omega | (simp only [World.size_alloc, World.size_setCell, World.size_drew]; omega) | (simp; omega) | (simp; done))))⟩
  go_upto_region 1 with (fail)
  try rw [hG]
  try rw [hw0]
  clear hw0 hG
  obtain ⟨bgc0, bgc1, bgc2⟩ := three Kg.out
  obtain ⟨brc0, brc1⟩ := twob Kr.out
  go_wp2_with fail
  refine (VA.out _ (HP.out.mono B.out)).mono ?_
  rintro e w1 ⟨rfl, hb⟩
  replace Kg := Lib.hid (Kg.out.below hb Kg.out.lt)
  replace Kr := Lib.hid (Kr.out.below hb Kr.out.lt)
  replace B := Lib.hid (B.out.trans (hb.mono B.out.size))
  clear bgc0 bgc1 bgc2 brc0 brc1
  clear hb
  obtain ⟨bgc0, bgc1, bgc2⟩ := three Kg.out
  obtain ⟨brc0, brc1⟩ := twob Kr.out
  clear bgc0 bgc1 bgc2 brc0 brc1
  obtain ⟨bgc0, bgc1, bgc2⟩ := three Kg.out
  obtain ⟨brc0, brc1⟩ := twob Kr.out
  clear bgc0 bgc1 bgc2 brc0 brc1
  obtain ⟨bgc0, bgc1, bgc2⟩ := three Kg.out
  obtain ⟨brc0, brc1⟩ := twob Kr.out
  have fzr := fun q => Kr.out.frozen q
  replace Kr := Lib.hid (show Blk (w1.setCell ⟨G + 1, 0, none⟩ (.int .i64 0)) (G + 1) 55 #[.int .i64 0, .int .i64 0] from Kr.out.set_ 0 (.int .i64 0))
  replace B := Lib.hid (show Below w.heap.size w (w1.setCell ⟨G + 1, 0, none⟩ (.int .i64 0)) from B.out.setCell (p := ⟨G + 1, 0, none⟩) (show w.heap.size ≤ G + 1 by have := HG.out; omega) (.int .i64 0))
  replace Kr := Lib.hid (show Blk ((w1.setCell ⟨G + 1, 0, none⟩ (.int .i64 0)).setCell ⟨G + 1, 1, none⟩ (.int .i64 1)) (G + 1) 55 #[.int .i64 0, .int .i64 1] from Kr.out.set_ 1 (.int .i64 1))
  replace B := Lib.hid (show Below w.heap.size w ((w1.setCell ⟨G + 1, 0, none⟩ (.int .i64 0)).setCell ⟨G + 1, 1, none⟩ (.int .i64 1)) from B.out.setCell (p := ⟨G + 1, 1, none⟩) (show w.heap.size ≤ G + 1 by have := HG.out; omega) (.int .i64 1))
  go_wp2
  generalize hw : ((w1.setCell ⟨G + 1, 0, none⟩ (.int .i64 0)).setCell ⟨G + 1, 1, none⟩ (.int .i64 1)) = w2 at Kr  B ⊢
  clear bgc0 bgc1 bgc2 brc0 brc1 fzr
  clear hw
  obtain ⟨d0, d1⟩ := twob Kr.out
  refine bodyPost_ret (by simp [results, Tryd.results18, go_sem, d0, d1]; try rfl) rfl ?_
  exact ⟨rfl, B.out⟩
set_option maxRecDepth 100000 in
set_option maxHeartbeats 2000000 in
theorem rdead_big (la mo : Int) (a : Option Addr) (c : Nat) (l : List Gr) (ep : Int) (w : World) (hp : GrA w a l) (hm : l.length ≤ 10000) (ok : GsOk la mo l) (h1 : ¬ ep < 1) (h2 : la < ep) :
    Calls Tryd.prog 18 #[.agg #[.int .i64 la, .int .i64 mo, .slice a l.length c], .int .i64 ep] w fun e w' => e = .returned (.agg #[.int .i64 0, .int .i64 1]) ∧ Below w.heap.size w w' := by
  have HP := Lib.hid hp
  have VA := Lib.hid (fun (X : World) (h : GrA X a l) => rvalid_any la mo a c l X h (by omega))
  have ev : validB la mo l = true := decide_eq_true ok
  rw [ev] at VA
  have FW := Lib.hid ok.few
  have t1 : decide (ep < 1) = false := decide_eq_false h1
  have t2 : decide (la < ep) = true := decide_eq_true h2
  obtain ⟨N, hN⟩ : ∃ N, l.length = N := ⟨_, rfl⟩
  have HE := Lib.hid hN
  simp only [hN] at VA FW
  rw [hN]
  clear hN hp hm ev ok h1 h2
  go_enter Tryd.func18, Tryd.ntmps18
  obtain ⟨G, hG⟩ : ∃ G, w.heap.size = G := ⟨_, rfl⟩
  have HG := Lib.hid hG
  obtain ⟨w0, hw0, Kg, Kr, B⟩ : ∃ X, ((w.alloc (.cells #[.int .i64 la, .int .i64 mo, .slice a N c] 24)).alloc (.cells #[.int .i64 0, .int .i64 0] 55)) = X ∧ Hid (Blk X (G) 24 #[.int .i64 la, .int .i64 mo, .slice a N c]) ∧ Hid (Blk X (G + 1) 55 #[.int .i64 0, .int .i64 0]) ∧ Hid (Below w.heap.size w X) := ⟨_, rfl, Lib.hid ((Blk.new' _ _ _ _ hG rfl).alloc _), Lib.hid (Blk.new' _ _ _ _ (by rw [World.size_alloc, hG]) rfl), Lib.hid (by (repeat' (first | (with_reducible exact Below.refl _ _) | (with_reducible assumption) | (with_reducible refine Below.alloc ?_ ?_ _) | (with_reducible refine Below.drew ?_) | (with_reducible refine below_dn ?_) | (with_reducible refine Below.setCell ?_ ?_ _) | (with_reducible exact Nat.le_refl _) | omega | (simp only [World.size_alloc, World.size_setCell, World.size_drew]; omega) | (simp; omega) | (simp; done))))⟩
  go_upto_region 1 with (fail)
  try rw [hG]
  try rw [hw0]
  clear hw0 hG
  obtain ⟨bgc0, bgc1, bgc2⟩ := three Kg.out
  obtain ⟨brc0, brc1⟩ := twob Kr.out
  go_wp2_with fail
  refine (VA.out _ (HP.out.mono B.out)).mono ?_
  rintro e w1 ⟨rfl, hb⟩
  replace Kg := Lib.hid (Kg.out.below hb Kg.out.lt)
  replace Kr := Lib.hid (Kr.out.below hb Kr.out.lt)
  replace B := Lib.hid (B.out.trans (hb.mono B.out.size))
  clear bgc0 bgc1 bgc2 brc0 brc1
  clear hb
  obtain ⟨bgc0, bgc1, bgc2⟩ := three Kg.out
  obtain ⟨brc0, brc1⟩ := twob Kr.out
  clear bgc0 bgc1 bgc2 brc0 brc1
  obtain ⟨bgc0, bgc1, bgc2⟩ := three Kg.out
  obtain ⟨brc0, brc1⟩ := twob Kr.out
  clear bgc0 bgc1 bgc2 brc0 brc1
  obtain ⟨bgc0, bgc1, bgc2⟩ := three Kg.out
  obtain ⟨brc0, brc1⟩ := twob Kr.out
  have fzr := fun q => Kr.out.frozen q
  replace Kr := Lib.hid (show Blk (w1.setCell ⟨G + 1, 0, none⟩ (.int .i64 0)) (G + 1) 55 #[.int .i64 0, .int .i64 0] from Kr.out.set_ 0 (.int .i64 0))
  replace B := Lib.hid (show Below w.heap.size w (w1.setCell ⟨G + 1, 0, none⟩ (.int .i64 0)) from B.out.setCell (p := ⟨G + 1, 0, none⟩) (show w.heap.size ≤ G + 1 by have := HG.out; omega) (.int .i64 0))
  replace Kr := Lib.hid (show Blk ((w1.setCell ⟨G + 1, 0, none⟩ (.int .i64 0)).setCell ⟨G + 1, 1, none⟩ (.int .i64 1)) (G + 1) 55 #[.int .i64 0, .int .i64 1] from Kr.out.set_ 1 (.int .i64 1))
  replace B := Lib.hid (show Below w.heap.size w ((w1.setCell ⟨G + 1, 0, none⟩ (.int .i64 0)).setCell ⟨G + 1, 1, none⟩ (.int .i64 1)) from B.out.setCell (p := ⟨G + 1, 1, none⟩) (show w.heap.size ≤ G + 1 by have := HG.out; omega) (.int .i64 1))
  go_wp2
  generalize hw : ((w1.setCell ⟨G + 1, 0, none⟩ (.int .i64 0)).setCell ⟨G + 1, 1, none⟩ (.int .i64 1)) = w2 at Kr  B ⊢
  clear bgc0 bgc1 bgc2 brc0 brc1 fzr
  clear hw
  obtain ⟨d0, d1⟩ := twob Kr.out
  refine bodyPost_ret (by simp [results, Tryd.results18, go_sem, d0, d1]; try rfl) rfl ?_
  exact ⟨rfl, B.out⟩
set_option maxRecDepth 100000 in
set_option maxHeartbeats 2000000 in
theorem rdead_ok (la mo : Int) (a : Option Addr) (c : Nat) (l : List Gr) (ep : Int) (w : World) (hp : GrA w a l) (hm : l.length ≤ 10000) (ok : GsOk la mo l) (h1 : ¬ ep < 1) (h2 : ¬ la < ep) :
    Calls Tryd.prog 18 #[.agg #[.int .i64 la, .int .i64 mo, .slice a l.length c], .int .i64 ep] w fun e w' => e = .returned (.agg #[.int .i64 (deadK l ep l.length), .int .i64 0]) ∧ Below w.heap.size w w' := by
  have HP := Lib.hid hp
  have VA := Lib.hid (fun (X : World) (h : GrA X a l) => rvalid_any la mo a c l X h (by omega))
  have ev : validB la mo l = true := decide_eq_true ok
  rw [ev] at VA
  have FW := Lib.hid ok.few
  have t1 : decide (ep < 1) = false := decide_eq_false h1
  have t2 : decide (la < ep) = false := decide_eq_false h2
  have DS := Lib.hid (fun (k : Nat) => dead_step l ep k)
  obtain ⟨N, hN⟩ : ∃ N, l.length = N := ⟨_, rfl⟩
  have HE := Lib.hid hN
  simp only [hN] at VA FW
  rw [hN]
  clear hN hp hm ev ok h1 h2
  go_enter Tryd.func18, Tryd.ntmps18
  obtain ⟨G, hG⟩ : ∃ G, w.heap.size = G := ⟨_, rfl⟩
  have HG := Lib.hid hG
  obtain ⟨w0, hw0, Kg, Kr, B⟩ : ∃ X, ((w.alloc (.cells #[.int .i64 la, .int .i64 mo, .slice a N c] 24)).alloc (.cells #[.int .i64 0, .int .i64 0] 55)) = X ∧ Hid (Blk X (G) 24 #[.int .i64 la, .int .i64 mo, .slice a N c]) ∧ Hid (Blk X (G + 1) 55 #[.int .i64 0, .int .i64 0]) ∧ Hid (Below w.heap.size w X) := ⟨_, rfl, Lib.hid ((Blk.new' _ _ _ _ hG rfl).alloc _), Lib.hid (Blk.new' _ _ _ _ (by rw [World.size_alloc, hG]) rfl), Lib.hid (by (repeat' (first | (with_reducible exact Below.refl _ _) | (with_reducible assumption) | (with_reducible refine Below.alloc ?_ ?_ _) | (with_reducible refine Below.drew ?_) | (with_reducible refine below_dn ?_) | (with_reducible refine Below.setCell ?_ ?_ _) | (with_reducible exact Nat.le_refl _) | omega | (simp only [World.size_alloc, World.size_setCell, World.size_drew]; omega) | (simp; omega) | (simp; done))))⟩
  go_upto_region 1 with (fail)
  try rw [hG]
  try rw [hw0]
  clear hw0 hG
  obtain ⟨bgc0, bgc1, bgc2⟩ := three Kg.out
  obtain ⟨brc0, brc1⟩ := twob Kr.out
  go_wp2_with fail
  refine (VA.out _ (HP.out.mono B.out)).mono ?_
  rintro e w1 ⟨rfl, hb⟩
  replace Kg := Lib.hid (Kg.out.below hb Kg.out.lt)
  replace Kr := Lib.hid (Kr.out.below hb Kr.out.lt)
  replace B := Lib.hid (B.out.trans (hb.mono B.out.size))
  clear bgc0 bgc1 bgc2 brc0 brc1
  clear hb
  obtain ⟨bgc0, bgc1, bgc2⟩ := three Kg.out
  obtain ⟨brc0, brc1⟩ := twob Kr.out
  clear bgc0 bgc1 bgc2 brc0 brc1
  obtain ⟨bgc0, bgc1, bgc2⟩ := three Kg.out
  obtain ⟨brc0, brc1⟩ := twob Kr.out
  go_wp2
  go_loopw [5, 6] (fun u5 u6 wr => ∃ k : Nat, k ≤ N ∧ u6 = .int .i64 k ∧ u5 = .int .i64 (deadK l ep k) ∧ Hid (Blk wr (G) 24 #[.int .i64 la, .int .i64 mo, .slice a N c]) ∧ Hid (Blk wr (G + 1) 55 #[.int .i64 0, .int .i64 0]) ∧ Hid (Below w.heap.size w wr)) (fun _ u6 _ => (N - intOf u6).toNat)
  case atStart => exact ⟨0, by omega, rfl, rfl, Kg, Kr, B⟩
  case round =>
    clear bgc0 bgc1 bgc2 brc0 brc1 Kg Kr B
    obtain ⟨k, hk, rfl, rfl, Kg, Kr, B⟩ := hrel
    obtain ⟨bgc0, bgc1, bgc2⟩ := three Kg.out
    obtain ⟨brc0, brc1⟩ := twob Kr.out
    by_cases hlt : k < N
    · have t0 : decide ((k : Int) < (N : Int)) = true := decide_eq_true (by omega)
      have wk : IntKind.i64.wrap ((k : Int) + 1) = (k : Int) + 1 := by have := FW.out; rw [IntKind.wrap_i64]; omega
      obtain ⟨b, off, rfl, q0, q1, q2⟩ := at_ (HP.out.mono B.out) (k := k) (by rw [HE.out]; exact hlt)
      have D2 := DS.out k
      obtain ⟨x, hx⟩ : ∃ y, l.getD k g0 = y := ⟨_, rfl⟩
      rw [hx] at q0 q1 q2 D2
      obtain ⟨x1, x2, x3⟩ := x
      simp only at q0 q1 q2 D2
      obtain ⟨dk, hdk⟩ : ∃ y, deadK l ep k = y := ⟨_, rfl⟩
      rw [hdk] at D2 ⊢
      have DD := Lib.hid D2
      clear hx hdk D2
      have k0 : (0 : Int) ≤ (k : Int) := by omega
      have kN : (k : Int) < (N : Int) := by have := HE.out; omega
      by_cases h2 : x2 < ep
      · have t2 : decide (x2 < ep) = true := decide_eq_true h2
        have DE := Lib.hid (show deadK l ep (k + 1) = max dk x3 by rw [DD.out, if_pos h2])
        clear h2
        go_wp2
        go_roundw
        case rel => exact ⟨k + 1, by omega, by go_num, by rw [DE.out], Kg, Kr, B⟩
        case measure => simp [intOf]; omega
      · have t2 : decide (x2 < ep) = false := decide_eq_false h2
        have DE := Lib.hid (show deadK l ep (k + 1) = dk by rw [DD.out, if_neg h2])
        clear h2
        go_wp2
        go_roundw
        case rel => exact ⟨k + 1, by omega, by go_num, by rw [DE.out], Kg, Kr, B⟩
        case measure => simp [intOf]; omega
    · have hkN : N = k := by omega
      subst hkN
      have t0 : decide ((N : Int) < (N : Int)) = false := decide_eq_false (by omega)
      clear hlt hk
      clear bgc0 bgc1 bgc2 brc0 brc1
      obtain ⟨bgc0, bgc1, bgc2⟩ := three Kg.out
      obtain ⟨brc0, brc1⟩ := twob Kr.out
      have fzr := fun q => Kr.out.frozen q
      replace Kr := Lib.hid (show Blk (wr.setCell ⟨G + 1, 0, none⟩ (.int .i64 (deadK l ep N))) (G + 1) 55 #[.int .i64 (deadK l ep N), .int .i64 0] from Kr.out.set_ 0 (.int .i64 (deadK l ep N)))
      replace B := Lib.hid (show Below w.heap.size w (wr.setCell ⟨G + 1, 0, none⟩ (.int .i64 (deadK l ep N))) from B.out.setCell (p := ⟨G + 1, 0, none⟩) (show w.heap.size ≤ G + 1 by have := HG.out; omega) (.int .i64 (deadK l ep N)))
      replace Kr := Lib.hid (show Blk ((wr.setCell ⟨G + 1, 0, none⟩ (.int .i64 (deadK l ep N))).setCell ⟨G + 1, 1, none⟩ (.int .i64 0)) (G + 1) 55 #[.int .i64 (deadK l ep N), .int .i64 0] from Kr.out.set_ 1 (.int .i64 0))
      replace B := Lib.hid (show Below w.heap.size w ((wr.setCell ⟨G + 1, 0, none⟩ (.int .i64 (deadK l ep N))).setCell ⟨G + 1, 1, none⟩ (.int .i64 0)) from B.out.setCell (p := ⟨G + 1, 1, none⟩) (show w.heap.size ≤ G + 1 by have := HG.out; omega) (.int .i64 0))
      go_wp2
      generalize hw : ((wr.setCell ⟨G + 1, 0, none⟩ (.int .i64 (deadK l ep N))).setCell ⟨G + 1, 1, none⟩ (.int .i64 0)) = w31 at Kr  B ⊢
      clear bgc0 bgc1 bgc2 brc0 brc1 fzr
      clear hw
      obtain ⟨d0, d1⟩ := twob Kr.out
      refine bodyPost_ret (by simp [results, Tryd.results18, go_sem, d0, d1]; try rfl) rfl ?_
      exact ⟨rfl, B.out⟩
set_option maxRecDepth 100000 in
set_option maxHeartbeats 2000000 in
theorem rwait_bad (la mo : Int) (a : Option Addr) (c : Nat) (l : List Gr) (ep lo hi : Int) (w : World) (hp : GrA w a l) (hm : l.length ≤ 10000) (bad : validB la mo l = false) :
    Calls Tryd.prog 19 #[.agg #[.int .i64 la, .int .i64 mo, .slice a l.length c], .int .i64 ep, per lo hi] w fun e w' => e = .returned (.agg #[.slice none 0 0, .int .i64 1]) ∧ Below w.heap.size w w' := by
  have HP := Lib.hid hp
  have VA := Lib.hid (fun (X : World) (h : GrA X a l) => rvalid_any la mo a c l X h (by omega))
  rw [bad] at VA
  obtain ⟨N, hN⟩ : ∃ N, l.length = N := ⟨_, rfl⟩
  have HE := Lib.hid hN
  simp only [hN] at VA
  rw [hN]
  clear hN hp hm bad
  go_enter Tryd.func19, Tryd.ntmps19
  obtain ⟨G, hG⟩ : ∃ G, w.heap.size = G := ⟨_, rfl⟩
  have HG := Lib.hid hG
  obtain ⟨w0, hw0, Kg, Kp, Kr, B⟩ : ∃ X, (((w.alloc (.cells #[.int .i64 la, .int .i64 mo, .slice a N c] 24)).alloc (.cells #[.int .i64 lo, .int .i64 hi] 28)).alloc (.cells #[.slice none 0 0, .int .i64 0] 58)) = X ∧ Hid (Blk X (G) 24 #[.int .i64 la, .int .i64 mo, .slice a N c]) ∧ Hid (Blk X (G + 1) 28 #[.int .i64 lo, .int .i64 hi]) ∧ Hid (Blk X (G + 1 + 1) 58 #[.slice none 0 0, .int .i64 0]) ∧ Hid (Below w.heap.size w X) := ⟨_, rfl, Lib.hid (((Blk.new' _ _ _ _ hG rfl).alloc _).alloc _), Lib.hid ((Blk.new' _ _ _ _ (by rw [World.size_alloc, hG]) rfl).alloc _), Lib.hid (Blk.new' _ _ _ _ (by rw [World.size_alloc, World.size_alloc, hG]) rfl), Lib.hid (by (repeat' (first | (with_reducible exact Below.refl _ _) | (with_reducible assumption) | (with_reducible refine Below.alloc ?_ ?_ _) | (with_reducible refine Below.drew ?_) | (with_reducible refine below_dn ?_) | (with_reducible refine Below.setCell ?_ ?_ _) | (with_reducible exact Nat.le_refl _) | omega | (simp only [World.size_alloc, World.size_setCell, World.size_drew]; omega) | (simp; omega) | (simp; done))))⟩
  go_upto_region 1 with (fail)
  try rw [hG]
  try rw [hw0]
  clear hw0 hG
  obtain ⟨bgc0, bgc1, bgc2⟩ := three Kg.out
  obtain ⟨bpc0, bpc1⟩ := twob Kp.out
  obtain ⟨brc0, brc1⟩ := twob Kr.out
  go_wp2_with fail
  refine (VA.out _ (HP.out.mono B.out)).mono ?_
  rintro e w1 ⟨rfl, hb⟩
  replace Kg := Lib.hid (Kg.out.below hb Kg.out.lt)
  replace Kp := Lib.hid (Kp.out.below hb Kp.out.lt)
  replace Kr := Lib.hid (Kr.out.below hb Kr.out.lt)
  replace B := Lib.hid (B.out.trans (hb.mono B.out.size))
  clear bgc0 bgc1 bgc2 bpc0 bpc1 brc0 brc1
  clear hb
  obtain ⟨bgc0, bgc1, bgc2⟩ := three Kg.out
  obtain ⟨bpc0, bpc1⟩ := twob Kp.out
  obtain ⟨brc0, brc1⟩ := twob Kr.out
  clear bgc0 bgc1 bgc2 bpc0 bpc1 brc0 brc1
  obtain ⟨bgc0, bgc1, bgc2⟩ := three Kg.out
  obtain ⟨bpc0, bpc1⟩ := twob Kp.out
  obtain ⟨brc0, brc1⟩ := twob Kr.out
  clear bgc0 bgc1 bgc2 bpc0 bpc1 brc0 brc1
  obtain ⟨bgc0, bgc1, bgc2⟩ := three Kg.out
  obtain ⟨bpc0, bpc1⟩ := twob Kp.out
  obtain ⟨brc0, brc1⟩ := twob Kr.out
  have fzr := fun q => Kr.out.frozen q
  replace Kr := Lib.hid (show Blk (w1.setCell ⟨G + 1 + 1, 0, none⟩ (.slice none 0 0)) (G + 1 + 1) 58 #[.slice none 0 0, .int .i64 0] from Kr.out.set_ 0 (.slice none 0 0))
  replace B := Lib.hid (show Below w.heap.size w (w1.setCell ⟨G + 1 + 1, 0, none⟩ (.slice none 0 0)) from B.out.setCell (p := ⟨G + 1 + 1, 0, none⟩) (show w.heap.size ≤ G + 1 + 1 by have := HG.out; omega) (.slice none 0 0))
  replace Kr := Lib.hid (show Blk ((w1.setCell ⟨G + 1 + 1, 0, none⟩ (.slice none 0 0)).setCell ⟨G + 1 + 1, 1, none⟩ (.int .i64 1)) (G + 1 + 1) 58 #[.slice none 0 0, .int .i64 1] from Kr.out.set_ 1 (.int .i64 1))
  replace B := Lib.hid (show Below w.heap.size w ((w1.setCell ⟨G + 1 + 1, 0, none⟩ (.slice none 0 0)).setCell ⟨G + 1 + 1, 1, none⟩ (.int .i64 1)) from B.out.setCell (p := ⟨G + 1 + 1, 1, none⟩) (show w.heap.size ≤ G + 1 + 1 by have := HG.out; omega) (.int .i64 1))
  go_wp2
  generalize hw : ((w1.setCell ⟨G + 1 + 1, 0, none⟩ (.slice none 0 0)).setCell ⟨G + 1 + 1, 1, none⟩ (.int .i64 1)) = w2 at Kr  B ⊢
  clear bgc0 bgc1 bgc2 bpc0 bpc1 brc0 brc1 fzr
  clear hw
  obtain ⟨d0, d1⟩ := twob Kr.out
  refine bodyPost_ret (by simp [results, Tryd.results19, go_sem, d0, d1]; try rfl) rfl ?_
  exact ⟨rfl, B.out⟩
set_option maxRecDepth 100000 in
set_option maxHeartbeats 2000000 in
theorem rwait_neg (la mo : Int) (a : Option Addr) (c : Nat) (l : List Gr) (ep lo hi : Int) (w : World) (hp : GrA w a l) (hm : l.length ≤ 10000) (ok : GsOk la mo l) (h1 : ep < 1) :
    Calls Tryd.prog 19 #[.agg #[.int .i64 la, .int .i64 mo, .slice a l.length c], .int .i64 ep, per lo hi] w fun e w' => e = .returned (.agg #[.slice none 0 0, .int .i64 1]) ∧ Below w.heap.size w w' := by
  have HP := Lib.hid hp
  have VA := Lib.hid (fun (X : World) (h : GrA X a l) => rvalid_any la mo a c l X h (by omega))
  have ev : validB la mo l = true := decide_eq_true ok
  rw [ev] at VA
  have FW := Lib.hid ok.few
  have t1 : decide (ep < 1) = true := decide_eq_true h1
  obtain ⟨N, hN⟩ : ∃ N, l.length = N := ⟨_, rfl⟩
  have HE := Lib.hid hN
  simp only [hN] at VA FW
  rw [hN]
  clear hN hp hm ev ok h1
  go_enter Tryd.func19, Tryd.ntmps19
  obtain ⟨G, hG⟩ : ∃ G, w.heap.size = G := ⟨_, rfl⟩
  have HG := Lib.hid hG
  obtain ⟨w0, hw0, Kg, Kp, Kr, B⟩ : ∃ X, (((w.alloc (.cells #[.int .i64 la, .int .i64 mo, .slice a N c] 24)).alloc (.cells #[.int .i64 lo, .int .i64 hi] 28)).alloc (.cells #[.slice none 0 0, .int .i64 0] 58)) = X ∧ Hid (Blk X (G) 24 #[.int .i64 la, .int .i64 mo, .slice a N c]) ∧ Hid (Blk X (G + 1) 28 #[.int .i64 lo, .int .i64 hi]) ∧ Hid (Blk X (G + 1 + 1) 58 #[.slice none 0 0, .int .i64 0]) ∧ Hid (Below w.heap.size w X) := ⟨_, rfl, Lib.hid (((Blk.new' _ _ _ _ hG rfl).alloc _).alloc _), Lib.hid ((Blk.new' _ _ _ _ (by rw [World.size_alloc, hG]) rfl).alloc _), Lib.hid (Blk.new' _ _ _ _ (by rw [World.size_alloc, World.size_alloc, hG]) rfl), Lib.hid (by (repeat' (first | (with_reducible exact Below.refl _ _) | (with_reducible assumption) | (with_reducible refine Below.alloc ?_ ?_ _) | (with_reducible refine Below.drew ?_) | (with_reducible refine below_dn ?_) | (with_reducible refine Below.setCell ?_ ?_ _) | (with_reducible exact Nat.le_refl _) | omega | (simp only [World.size_alloc, World.size_setCell, World.size_drew]; omega) | (simp; omega) | (simp; done))))⟩
  go_upto_region 1 with (fail)
  try rw [hG]
  try rw [hw0]
  clear hw0 hG
  obtain ⟨bgc0, bgc1, bgc2⟩ := three Kg.out
  obtain ⟨bpc0, bpc1⟩ := twob Kp.out
  obtain ⟨brc0, brc1⟩ := twob Kr.out
  go_wp2_with fail
  refine (VA.out _ (HP.out.mono B.out)).mono ?_
  rintro e w1 ⟨rfl, hb⟩
  replace Kg := Lib.hid (Kg.out.below hb Kg.out.lt)
  replace Kp := Lib.hid (Kp.out.below hb Kp.out.lt)
  replace Kr := Lib.hid (Kr.out.below hb Kr.out.lt)
  replace B := Lib.hid (B.out.trans (hb.mono B.out.size))
  clear bgc0 bgc1 bgc2 bpc0 bpc1 brc0 brc1
  clear hb
  obtain ⟨bgc0, bgc1, bgc2⟩ := three Kg.out
  obtain ⟨bpc0, bpc1⟩ := twob Kp.out
  obtain ⟨brc0, brc1⟩ := twob Kr.out
  clear bgc0 bgc1 bgc2 bpc0 bpc1 brc0 brc1
  obtain ⟨bgc0, bgc1, bgc2⟩ := three Kg.out
  obtain ⟨bpc0, bpc1⟩ := twob Kp.out
  obtain ⟨brc0, brc1⟩ := twob Kr.out
  clear bgc0 bgc1 bgc2 bpc0 bpc1 brc0 brc1
  obtain ⟨bgc0, bgc1, bgc2⟩ := three Kg.out
  obtain ⟨bpc0, bpc1⟩ := twob Kp.out
  obtain ⟨brc0, brc1⟩ := twob Kr.out
  have fzr := fun q => Kr.out.frozen q
  replace Kr := Lib.hid (show Blk (w1.setCell ⟨G + 1 + 1, 0, none⟩ (.slice none 0 0)) (G + 1 + 1) 58 #[.slice none 0 0, .int .i64 0] from Kr.out.set_ 0 (.slice none 0 0))
  replace B := Lib.hid (show Below w.heap.size w (w1.setCell ⟨G + 1 + 1, 0, none⟩ (.slice none 0 0)) from B.out.setCell (p := ⟨G + 1 + 1, 0, none⟩) (show w.heap.size ≤ G + 1 + 1 by have := HG.out; omega) (.slice none 0 0))
  replace Kr := Lib.hid (show Blk ((w1.setCell ⟨G + 1 + 1, 0, none⟩ (.slice none 0 0)).setCell ⟨G + 1 + 1, 1, none⟩ (.int .i64 1)) (G + 1 + 1) 58 #[.slice none 0 0, .int .i64 1] from Kr.out.set_ 1 (.int .i64 1))
  replace B := Lib.hid (show Below w.heap.size w ((w1.setCell ⟨G + 1 + 1, 0, none⟩ (.slice none 0 0)).setCell ⟨G + 1 + 1, 1, none⟩ (.int .i64 1)) from B.out.setCell (p := ⟨G + 1 + 1, 1, none⟩) (show w.heap.size ≤ G + 1 + 1 by have := HG.out; omega) (.int .i64 1))
  go_wp2
  generalize hw : ((w1.setCell ⟨G + 1 + 1, 0, none⟩ (.slice none 0 0)).setCell ⟨G + 1 + 1, 1, none⟩ (.int .i64 1)) = w2 at Kr  B ⊢
  clear bgc0 bgc1 bgc2 bpc0 bpc1 brc0 brc1 fzr
  clear hw
  obtain ⟨d0, d1⟩ := twob Kr.out
  refine bodyPost_ret (by simp [results, Tryd.results19, go_sem, d0, d1]; try rfl) rfl ?_
  exact ⟨rfl, B.out⟩
set_option maxRecDepth 100000 in
set_option maxHeartbeats 2000000 in
theorem rwait_big (la mo : Int) (a : Option Addr) (c : Nat) (l : List Gr) (ep lo hi : Int) (w : World) (hp : GrA w a l) (hm : l.length ≤ 10000) (ok : GsOk la mo l) (h1 : ¬ ep < 1) (h2 : la < ep) :
    Calls Tryd.prog 19 #[.agg #[.int .i64 la, .int .i64 mo, .slice a l.length c], .int .i64 ep, per lo hi] w fun e w' => e = .returned (.agg #[.slice none 0 0, .int .i64 1]) ∧ Below w.heap.size w w' := by
  have HP := Lib.hid hp
  have VA := Lib.hid (fun (X : World) (h : GrA X a l) => rvalid_any la mo a c l X h (by omega))
  have ev : validB la mo l = true := decide_eq_true ok
  rw [ev] at VA
  have FW := Lib.hid ok.few
  have t1 : decide (ep < 1) = false := decide_eq_false h1
  have t2 : decide (la < ep) = true := decide_eq_true h2
  obtain ⟨N, hN⟩ : ∃ N, l.length = N := ⟨_, rfl⟩
  have HE := Lib.hid hN
  simp only [hN] at VA FW
  rw [hN]
  clear hN hp hm ev ok h1 h2
  go_enter Tryd.func19, Tryd.ntmps19
  obtain ⟨G, hG⟩ : ∃ G, w.heap.size = G := ⟨_, rfl⟩
  have HG := Lib.hid hG
  obtain ⟨w0, hw0, Kg, Kp, Kr, B⟩ : ∃ X, (((w.alloc (.cells #[.int .i64 la, .int .i64 mo, .slice a N c] 24)).alloc (.cells #[.int .i64 lo, .int .i64 hi] 28)).alloc (.cells #[.slice none 0 0, .int .i64 0] 58)) = X ∧ Hid (Blk X (G) 24 #[.int .i64 la, .int .i64 mo, .slice a N c]) ∧ Hid (Blk X (G + 1) 28 #[.int .i64 lo, .int .i64 hi]) ∧ Hid (Blk X (G + 1 + 1) 58 #[.slice none 0 0, .int .i64 0]) ∧ Hid (Below w.heap.size w X) := ⟨_, rfl, Lib.hid (((Blk.new' _ _ _ _ hG rfl).alloc _).alloc _), Lib.hid ((Blk.new' _ _ _ _ (by rw [World.size_alloc, hG]) rfl).alloc _), Lib.hid (Blk.new' _ _ _ _ (by rw [World.size_alloc, World.size_alloc, hG]) rfl), Lib.hid (by (repeat' (first | (with_reducible exact Below.refl _ _) | (with_reducible assumption) | (with_reducible refine Below.alloc ?_ ?_ _) | (with_reducible refine Below.drew ?_) | (with_reducible refine below_dn ?_) | (with_reducible refine Below.setCell ?_ ?_ _) | (with_reducible exact Nat.le_refl _) | omega | (simp only [World.size_alloc, World.size_setCell, World.size_drew]; omega) | (simp; omega) | (simp; done))))⟩
  go_upto_region 1 with (fail)
  try rw [hG]
  try rw [hw0]
  clear hw0 hG
  obtain ⟨bgc0, bgc1, bgc2⟩ := three Kg.out
  obtain ⟨bpc0, bpc1⟩ := twob Kp.out
  obtain ⟨brc0, brc1⟩ := twob Kr.out
  go_wp2_with fail
  refine (VA.out _ (HP.out.mono B.out)).mono ?_
  rintro e w1 ⟨rfl, hb⟩
  replace Kg := Lib.hid (Kg.out.below hb Kg.out.lt)
  replace Kp := Lib.hid (Kp.out.below hb Kp.out.lt)
  replace Kr := Lib.hid (Kr.out.below hb Kr.out.lt)
  replace B := Lib.hid (B.out.trans (hb.mono B.out.size))
  clear bgc0 bgc1 bgc2 bpc0 bpc1 brc0 brc1
  clear hb
  obtain ⟨bgc0, bgc1, bgc2⟩ := three Kg.out
  obtain ⟨bpc0, bpc1⟩ := twob Kp.out
  obtain ⟨brc0, brc1⟩ := twob Kr.out
  clear bgc0 bgc1 bgc2 bpc0 bpc1 brc0 brc1
  obtain ⟨bgc0, bgc1, bgc2⟩ := three Kg.out
  obtain ⟨bpc0, bpc1⟩ := twob Kp.out
  obtain ⟨brc0, brc1⟩ := twob Kr.out
  clear bgc0 bgc1 bgc2 bpc0 bpc1 brc0 brc1
  obtain ⟨bgc0, bgc1, bgc2⟩ := three Kg.out
  obtain ⟨bpc0, bpc1⟩ := twob Kp.out
  obtain ⟨brc0, brc1⟩ := twob Kr.out
  have fzr := fun q => Kr.out.frozen q
  replace Kr := Lib.hid (show Blk (w1.setCell ⟨G + 1 + 1, 0, none⟩ (.slice none 0 0)) (G + 1 + 1) 58 #[.slice none 0 0, .int .i64 0] from Kr.out.set_ 0 (.slice none 0 0))
  replace B := Lib.hid (show Below w.heap.size w (w1.setCell ⟨G + 1 + 1, 0, none⟩ (.slice none 0 0)) from B.out.setCell (p := ⟨G + 1 + 1, 0, none⟩) (show w.heap.size ≤ G + 1 + 1 by have := HG.out; omega) (.slice none 0 0))
  replace Kr := Lib.hid (show Blk ((w1.setCell ⟨G + 1 + 1, 0, none⟩ (.slice none 0 0)).setCell ⟨G + 1 + 1, 1, none⟩ (.int .i64 1)) (G + 1 + 1) 58 #[.slice none 0 0, .int .i64 1] from Kr.out.set_ 1 (.int .i64 1))
  replace B := Lib.hid (show Below w.heap.size w ((w1.setCell ⟨G + 1 + 1, 0, none⟩ (.slice none 0 0)).setCell ⟨G + 1 + 1, 1, none⟩ (.int .i64 1)) from B.out.setCell (p := ⟨G + 1 + 1, 1, none⟩) (show w.heap.size ≤ G + 1 + 1 by have := HG.out; omega) (.int .i64 1))
  go_wp2
  generalize hw : ((w1.setCell ⟨G + 1 + 1, 0, none⟩ (.slice none 0 0)).setCell ⟨G + 1 + 1, 1, none⟩ (.int .i64 1)) = w2 at Kr  B ⊢
  clear bgc0 bgc1 bgc2 bpc0 bpc1 brc0 brc1 fzr
  clear hw
  obtain ⟨d0, d1⟩ := twob Kr.out
  refine bodyPost_ret (by simp [results, Tryd.results19, go_sem, d0, d1]; try rfl) rfl ?_
  exact ⟨rfl, B.out⟩
set_option maxRecDepth 100000 in
set_option maxHeartbeats 2000000 in
theorem rwait_per (la mo : Int) (a : Option Addr) (c : Nat) (l : List Gr) (ep lo hi : Int) (w : World) (hp : GrA w a l) (hm : l.length ≤ 10000) (ok : GsOk la mo l) (h1 : ¬ ep < 1) (h2 : ¬ la < ep) (hq : perB lo hi = false) :
    Calls Tryd.prog 19 #[.agg #[.int .i64 la, .int .i64 mo, .slice a l.length c], .int .i64 ep, per lo hi] w fun e w' => e = .returned (.agg #[.slice none 0 0, .int .i64 1]) ∧ Below w.heap.size w w' := by
  have HP := Lib.hid hp
  have VA := Lib.hid (fun (X : World) (h : GrA X a l) => rvalid_any la mo a c l X h (by omega))
  have ev : validB la mo l = true := decide_eq_true ok
  rw [ev] at VA
  have FW := Lib.hid ok.few
  have t1 : decide (ep < 1) = false := decide_eq_false h1
  have t2 : decide (la < ep) = false := decide_eq_false h2
  have PE := Lib.hid (fun (X : World) => period_ref lo hi X)
  rw [hq] at PE
  obtain ⟨N, hN⟩ : ∃ N, l.length = N := ⟨_, rfl⟩
  have HE := Lib.hid hN
  simp only [hN] at VA FW
  rw [hN]
  clear hN hp hm ev ok h1 h2 hq
  go_enter Tryd.func19, Tryd.ntmps19
  obtain ⟨G, hG⟩ : ∃ G, w.heap.size = G := ⟨_, rfl⟩
  have HG := Lib.hid hG
  obtain ⟨w0, hw0, Kg, Kp, Kr, B⟩ : ∃ X, (((w.alloc (.cells #[.int .i64 la, .int .i64 mo, .slice a N c] 24)).alloc (.cells #[.int .i64 lo, .int .i64 hi] 28)).alloc (.cells #[.slice none 0 0, .int .i64 0] 58)) = X ∧ Hid (Blk X (G) 24 #[.int .i64 la, .int .i64 mo, .slice a N c]) ∧ Hid (Blk X (G + 1) 28 #[.int .i64 lo, .int .i64 hi]) ∧ Hid (Blk X (G + 1 + 1) 58 #[.slice none 0 0, .int .i64 0]) ∧ Hid (Below w.heap.size w X) := ⟨_, rfl, Lib.hid (((Blk.new' _ _ _ _ hG rfl).alloc _).alloc _), Lib.hid ((Blk.new' _ _ _ _ (by rw [World.size_alloc, hG]) rfl).alloc _), Lib.hid (Blk.new' _ _ _ _ (by rw [World.size_alloc, World.size_alloc, hG]) rfl), Lib.hid (by (repeat' (first | (with_reducible exact Below.refl _ _) | (with_reducible assumption) | (with_reducible refine Below.alloc ?_ ?_ _) | (with_reducible refine Below.drew ?_) | (with_reducible refine below_dn ?_) | (with_reducible refine Below.setCell ?_ ?_ _) | (with_reducible exact Nat.le_refl _) | omega | (simp only [World.size_alloc, World.size_setCell, World.size_drew]; omega) | (simp; omega) | (simp; done))))⟩
  go_upto_region 1 with (fail)
  try rw [hG]
  try rw [hw0]
  clear hw0 hG
  obtain ⟨bgc0, bgc1, bgc2⟩ := three Kg.out
  obtain ⟨bpc0, bpc1⟩ := twob Kp.out
  obtain ⟨brc0, brc1⟩ := twob Kr.out
  go_wp2_with fail
  refine (VA.out _ (HP.out.mono B.out)).mono ?_
  rintro e w1 ⟨rfl, hb⟩
  replace Kg := Lib.hid (Kg.out.below hb Kg.out.lt)
  replace Kp := Lib.hid (Kp.out.below hb Kp.out.lt)
  replace Kr := Lib.hid (Kr.out.below hb Kr.out.lt)
  replace B := Lib.hid (B.out.trans (hb.mono B.out.size))
  clear bgc0 bgc1 bgc2 bpc0 bpc1 brc0 brc1
  clear hb
  obtain ⟨bgc0, bgc1, bgc2⟩ := three Kg.out
  obtain ⟨bpc0, bpc1⟩ := twob Kp.out
  obtain ⟨brc0, brc1⟩ := twob Kr.out
  clear bgc0 bgc1 bgc2 bpc0 bpc1 brc0 brc1
  obtain ⟨bgc0, bgc1, bgc2⟩ := three Kg.out
  obtain ⟨bpc0, bpc1⟩ := twob Kp.out
  obtain ⟨brc0, brc1⟩ := twob Kr.out
  go_wp2_with fail
  refine (PE.out _).mono ?_
  rintro e w2 ⟨rfl, hb⟩
  replace Kg := Lib.hid (Kg.out.below hb Kg.out.lt)
  replace Kp := Lib.hid (Kp.out.below hb Kp.out.lt)
  replace Kr := Lib.hid (Kr.out.below hb Kr.out.lt)
  replace B := Lib.hid (B.out.trans (hb.mono B.out.size))
  clear bgc0 bgc1 bgc2 bpc0 bpc1 brc0 brc1
  clear hb
  obtain ⟨bgc0, bgc1, bgc2⟩ := three Kg.out
  obtain ⟨bpc0, bpc1⟩ := twob Kp.out
  obtain ⟨brc0, brc1⟩ := twob Kr.out
  clear bgc0 bgc1 bgc2 bpc0 bpc1 brc0 brc1
  obtain ⟨bgc0, bgc1, bgc2⟩ := three Kg.out
  obtain ⟨bpc0, bpc1⟩ := twob Kp.out
  obtain ⟨brc0, brc1⟩ := twob Kr.out
  clear bgc0 bgc1 bgc2 bpc0 bpc1 brc0 brc1
  obtain ⟨bgc0, bgc1, bgc2⟩ := three Kg.out
  obtain ⟨bpc0, bpc1⟩ := twob Kp.out
  obtain ⟨brc0, brc1⟩ := twob Kr.out
  have fzr := fun q => Kr.out.frozen q
  replace Kr := Lib.hid (show Blk (w2.setCell ⟨G + 1 + 1, 0, none⟩ (.slice none 0 0)) (G + 1 + 1) 58 #[.slice none 0 0, .int .i64 0] from Kr.out.set_ 0 (.slice none 0 0))
  replace B := Lib.hid (show Below w.heap.size w (w2.setCell ⟨G + 1 + 1, 0, none⟩ (.slice none 0 0)) from B.out.setCell (p := ⟨G + 1 + 1, 0, none⟩) (show w.heap.size ≤ G + 1 + 1 by have := HG.out; omega) (.slice none 0 0))
  replace Kr := Lib.hid (show Blk ((w2.setCell ⟨G + 1 + 1, 0, none⟩ (.slice none 0 0)).setCell ⟨G + 1 + 1, 1, none⟩ (.int .i64 1)) (G + 1 + 1) 58 #[.slice none 0 0, .int .i64 1] from Kr.out.set_ 1 (.int .i64 1))
  replace B := Lib.hid (show Below w.heap.size w ((w2.setCell ⟨G + 1 + 1, 0, none⟩ (.slice none 0 0)).setCell ⟨G + 1 + 1, 1, none⟩ (.int .i64 1)) from B.out.setCell (p := ⟨G + 1 + 1, 1, none⟩) (show w.heap.size ≤ G + 1 + 1 by have := HG.out; omega) (.int .i64 1))
  go_wp2
  generalize hw : ((w2.setCell ⟨G + 1 + 1, 0, none⟩ (.slice none 0 0)).setCell ⟨G + 1 + 1, 1, none⟩ (.int .i64 1)) = w3 at Kr  B ⊢
  clear bgc0 bgc1 bgc2 bpc0 bpc1 brc0 brc1 fzr
  clear hw
  obtain ⟨d0, d1⟩ := twob Kr.out
  refine bodyPost_ret (by simp [results, Tryd.results19, go_sem, d0, d1]; try rfl) rfl ?_
  exact ⟨rfl, B.out⟩
set_option maxRecDepth 100000 in
set_option maxHeartbeats 2000000 in
theorem rwait_ok (la mo : Int) (a : Option Addr) (c : Nat) (l : List Gr) (ep lo hi : Int) (w : World) (hp : GrA w a l) (hm : l.length ≤ 10000) (ok : GsOk la mo l) (h1 : ¬ ep < 1) (h2 : ¬ la < ep) (hq : perB lo hi = true) :
    Calls Tryd.prog 19 #[.agg #[.int .i64 la, .int .i64 mo, .slice a l.length c], .int .i64 ep, per lo hi] w fun e w' => (∃ a' c', e = .returned (.agg #[.slice a' (waitK l ep lo l.length).length c', .int .i64 0]) ∧ IntsA w' a' (waitK l ep lo l.length)) ∧ Below w.heap.size w w' := by
  have HP := Lib.hid hp
  have VA := Lib.hid (fun (X : World) (h : GrA X a l) => rvalid_any la mo a c l X h (by omega))
  have ev : validB la mo l = true := decide_eq_true ok
  rw [ev] at VA
  have FW := Lib.hid ok.few
  have t1 : decide (ep < 1) = false := decide_eq_false h1
  have t2 : decide (la < ep) = false := decide_eq_false h2
  have PE := Lib.hid (fun (X : World) => period_ref lo hi X)
  rw [hq] at PE
  have DS := Lib.hid (fun (k : Nat) => wait_step l ep lo k)
  obtain ⟨N, hN⟩ : ∃ N, l.length = N := ⟨_, rfl⟩
  have HE := Lib.hid hN
  simp only [hN] at VA FW
  rw [hN]
  clear hN hp hm ev ok h1 h2 hq
  go_enter Tryd.func19, Tryd.ntmps19
  obtain ⟨G, hG⟩ : ∃ G, w.heap.size = G := ⟨_, rfl⟩
  have HG := Lib.hid hG
  obtain ⟨w0, hw0, Kg, Kp, Kr, B⟩ : ∃ X, (((w.alloc (.cells #[.int .i64 la, .int .i64 mo, .slice a N c] 24)).alloc (.cells #[.int .i64 lo, .int .i64 hi] 28)).alloc (.cells #[.slice none 0 0, .int .i64 0] 58)) = X ∧ Hid (Blk X (G) 24 #[.int .i64 la, .int .i64 mo, .slice a N c]) ∧ Hid (Blk X (G + 1) 28 #[.int .i64 lo, .int .i64 hi]) ∧ Hid (Blk X (G + 1 + 1) 58 #[.slice none 0 0, .int .i64 0]) ∧ Hid (Below w.heap.size w X) := ⟨_, rfl, Lib.hid (((Blk.new' _ _ _ _ hG rfl).alloc _).alloc _), Lib.hid ((Blk.new' _ _ _ _ (by rw [World.size_alloc, hG]) rfl).alloc _), Lib.hid (Blk.new' _ _ _ _ (by rw [World.size_alloc, World.size_alloc, hG]) rfl), Lib.hid (by (repeat' (first | (with_reducible exact Below.refl _ _) | (with_reducible assumption) | (with_reducible refine Below.alloc ?_ ?_ _) | (with_reducible refine Below.drew ?_) | (with_reducible refine below_dn ?_) | (with_reducible refine Below.setCell ?_ ?_ _) | (with_reducible exact Nat.le_refl _) | omega | (simp only [World.size_alloc, World.size_setCell, World.size_drew]; omega) | (simp; omega) | (simp; done))))⟩
  go_upto_region 1 with (fail)
  try rw [hG]
  try rw [hw0]
  clear hw0 hG
  obtain ⟨bgc0, bgc1, bgc2⟩ := three Kg.out
  obtain ⟨bpc0, bpc1⟩ := twob Kp.out
  obtain ⟨brc0, brc1⟩ := twob Kr.out
  go_wp2_with fail
  refine (VA.out _ (HP.out.mono B.out)).mono ?_
  rintro e w1 ⟨rfl, hb⟩
  replace Kg := Lib.hid (Kg.out.below hb Kg.out.lt)
  replace Kp := Lib.hid (Kp.out.below hb Kp.out.lt)
  replace Kr := Lib.hid (Kr.out.below hb Kr.out.lt)
  replace B := Lib.hid (B.out.trans (hb.mono B.out.size))
  clear bgc0 bgc1 bgc2 bpc0 bpc1 brc0 brc1
  clear hb
  obtain ⟨bgc0, bgc1, bgc2⟩ := three Kg.out
  obtain ⟨bpc0, bpc1⟩ := twob Kp.out
  obtain ⟨brc0, brc1⟩ := twob Kr.out
  clear bgc0 bgc1 bgc2 bpc0 bpc1 brc0 brc1
  obtain ⟨bgc0, bgc1, bgc2⟩ := three Kg.out
  obtain ⟨bpc0, bpc1⟩ := twob Kp.out
  obtain ⟨brc0, brc1⟩ := twob Kr.out
  go_wp2_with fail
  refine (PE.out _).mono ?_
  rintro e w2 ⟨rfl, hb⟩
  replace Kg := Lib.hid (Kg.out.below hb Kg.out.lt)
  replace Kp := Lib.hid (Kp.out.below hb Kp.out.lt)
  replace Kr := Lib.hid (Kr.out.below hb Kr.out.lt)
  replace B := Lib.hid (B.out.trans (hb.mono B.out.size))
  clear bgc0 bgc1 bgc2 bpc0 bpc1 brc0 brc1
  clear hb
  obtain ⟨bgc0, bgc1, bgc2⟩ := three Kg.out
  obtain ⟨bpc0, bpc1⟩ := twob Kp.out
  obtain ⟨brc0, brc1⟩ := twob Kr.out
  clear bgc0 bgc1 bgc2 bpc0 bpc1 brc0 brc1
  obtain ⟨bgc0, bgc1, bgc2⟩ := three Kg.out
  obtain ⟨bpc0, bpc1⟩ := twob Kp.out
  obtain ⟨brc0, brc1⟩ := twob Kr.out
  go_wp2
  have OW := Lib.hid (OwnI.nil w2 (G + 3))
  have Y := Lib.hid (show G + 3 ≤ w2.heap.size by have := Kr.out.lt; omega)
  go_loopw [7, 8] (fun u7 u8 wr => ∃ k : Nat, k ≤ N ∧ u8 = .int .i64 k ∧ Hid (OwnI wr (G + 3) u7 (waitK l ep lo k)) ∧ Hid (Blk wr (G) 24 #[.int .i64 la, .int .i64 mo, .slice a N c]) ∧ Hid (Blk wr (G + 1) 28 #[.int .i64 lo, .int .i64 hi]) ∧ Hid (Blk wr (G + 1 + 1) 58 #[.slice none 0 0, .int .i64 0]) ∧ Hid (G + 3 ≤ wr.heap.size) ∧ Hid (Below w.heap.size w wr)) (fun _ u8 _ => (N - intOf u8).toNat)
  case atStart => exact ⟨0, by omega, rfl, OW, Kg, Kp, Kr, Y, B⟩
  case round =>
    clear bgc0 bgc1 bgc2 bpc0 bpc1 brc0 brc1 Kg Kp Kr B OW Y
    obtain ⟨k, hk, rfl, OW, Kg, Kp, Kr, Y, B⟩ := hrel
    obtain ⟨bgc0, bgc1, bgc2⟩ := three Kg.out
    obtain ⟨bpc0, bpc1⟩ := twob Kp.out
    obtain ⟨brc0, brc1⟩ := twob Kr.out
    by_cases hlt : k < N
    · have t0 : decide ((k : Int) < (N : Int)) = true := decide_eq_true (by omega)
      have wk : IntKind.i64.wrap ((k : Int) + 1) = (k : Int) + 1 := by have := FW.out; rw [IntKind.wrap_i64]; omega
      obtain ⟨b, off, rfl, q0, q1, q2⟩ := at_ (HP.out.mono B.out) (k := k) (by rw [HE.out]; exact hlt)
      have D2 := DS.out k (by rw [HE.out]; exact hlt)
      obtain ⟨x, hx⟩ : ∃ y, l.getD k g0 = y := ⟨_, rfl⟩
      rw [hx] at q0 q1 q2 D2
      obtain ⟨x1, x2, x3⟩ := x
      simp only at q0 q1 q2 D2
      obtain ⟨dk, hdk⟩ : ∃ y, waitK l ep lo k = y := ⟨_, rfl⟩
      rw [hdk] at D2 OW
      have LN := Lib.hid (show dk.length ≤ 1000000000 by rw [← hdk]; have h1 := List.length_filter_le (fun x : Gr => decide (x.2.1 < ep) && decide (lo < x.2.2)) (l.take k); have h2 := List.length_take_le k l; have := FW.out; unfold waitK; rw [List.length_map]; omega)
      have QX := Lib.hid (fun (X : World) (hb : Below w.heap.size w X) => cells_ (HP.out.mono hb) (k := k) (by rw [HE.out]; exact hlt) rfl)
      rw [hx] at QX
      simp only at QX
      have DD := Lib.hid D2
      clear hx hdk D2
      have k0 : (0 : Int) ≤ (k : Int) := by omega
      have kN : (k : Int) < (N : Int) := by have := HE.out; omega
      by_cases h2 : x2 < ep
      · by_cases h3 : lo < x3
        · have t2 : decide (x2 < ep) = true := decide_eq_true h2
          have t3 : decide (lo < x3) = true := decide_eq_true h3
          have DE := Lib.hid (show waitK l ep lo (k + 1) = dk ++ [x1] by rw [DD.out, if_pos ⟨h2, h3⟩])
          clear h2 h3
          go_wp2
          go_region
          go_upto_region 8 with (fail)
          replace Kg := Lib.hid Kg.out.drew
          replace Kp := Lib.hid Kp.out.drew
          replace Kr := Lib.hid Kr.out.drew
          replace OW := Lib.hid (OwnI.drew OW.out)
          replace B := Lib.hid B.out.drew
          replace Y := Lib.hid (show G + 3 ≤ wr.drew.heap.size from Y.out)
          generalize wr.drew = wd at Kg Kp Kr OW B Y ⊢
          clear q0 q1 q2 bgc0 bgc1 bgc2 bpc0 bpc1 brc0 brc1
          obtain ⟨q0, q1, q2⟩ := QX.out _ B.out
          obtain ⟨bgc0, bgc1, bgc2⟩ := three Kg.out
          obtain ⟨bpc0, bpc1⟩ := twob Kp.out
          obtain ⟨brc0, brc1⟩ := twob Kr.out
          go_wp2_with (at_builtin; refine wpAppI rfl _ _ rfl (G + 3) _ _ rfl OW.out x1 _ rfl rfl LN.out Y.out ?_)
          intro v4 w4 ho hb4
          have O4 := Lib.hid (show OwnI w4 (G + 3) v4 (waitK l ep lo (k + 1)) by rw [DE.out]; exact ho)
          have B4 := Lib.hid (show Below w.heap.size w w4 from B.out.trans (hb4.mono (by have := HG.out; omega)))
          have Y4 := Lib.hid (Nat.le_trans Y.out hb4.size)
          have Kg4 := Lib.hid (show Blk w4 _ _ _ from Kg.out.below hb4 (by omega))
          have Kp4 := Lib.hid (show Blk w4 _ _ _ from Kp.out.below hb4 (by omega))
          have Kr4 := Lib.hid (show Blk w4 _ _ _ from Kr.out.below hb4 (by omega))
          clear ho hb4 Kg Kp Kr OW B Y q0 q1 q2 bgc0 bgc1 bgc2 bpc0 bpc1 brc0 brc1
          go_wp2
          go_roundw
          case rel => exact ⟨k + 1, by omega, by go_num, O4, Kg4, Kp4, Kr4, Y4, B4⟩
          case measure => simp [intOf]; omega
        · have t2 : decide (x2 < ep) = true := decide_eq_true h2
          have t3 : decide (lo < x3) = false := decide_eq_false h3
          have DE := Lib.hid (show waitK l ep lo (k + 1) = dk by rw [DD.out, if_neg (fun q => h3 q.2)])
          clear h2 h3
          go_wp2
          go_region
          go_upto_region 6 with (fail)
          replace Kg := Lib.hid Kg.out.drew
          replace Kp := Lib.hid Kp.out.drew
          replace Kr := Lib.hid Kr.out.drew
          replace OW := Lib.hid (OwnI.drew OW.out)
          replace B := Lib.hid B.out.drew
          replace Y := Lib.hid (show G + 3 ≤ wr.drew.heap.size from Y.out)
          generalize wr.drew = wd at Kg Kp Kr OW B Y ⊢
          clear q0 q1 q2 bgc0 bgc1 bgc2 bpc0 bpc1 brc0 brc1
          go_wp2
          go_roundw
          case rel => exact ⟨k + 1, by omega, by go_num, by rw [DE.out]; exact OW, Kg, Kp, Kr, Y, B⟩
          case measure => simp [intOf]; omega
      · have t2 : decide (x2 < ep) = false := decide_eq_false h2
        have DE := Lib.hid (show waitK l ep lo (k + 1) = dk by rw [DD.out, if_neg (fun q => h2 q.1)])
        clear h2
        go_wp2
        go_region
        go_upto_region 6 with (fail)
        replace Kg := Lib.hid Kg.out.drew
        replace Kp := Lib.hid Kp.out.drew
        replace Kr := Lib.hid Kr.out.drew
        replace OW := Lib.hid (OwnI.drew OW.out)
        replace B := Lib.hid B.out.drew
        replace Y := Lib.hid (show G + 3 ≤ wr.drew.heap.size from Y.out)
        generalize wr.drew = wd at Kg Kp Kr OW B Y ⊢
        clear q0 q1 q2 bgc0 bgc1 bgc2 bpc0 bpc1 brc0 brc1
        go_wp2
        go_roundw
        case rel => exact ⟨k + 1, by omega, by go_num, by rw [DE.out]; exact OW, Kg, Kp, Kr, Y, B⟩
        case measure => simp [intOf]; omega
    · have hkN : N = k := by omega
      subst hkN
      have t0 : decide ((N : Int) < (N : Int)) = false := decide_eq_false (by omega)
      clear hlt hk
      obtain ⟨a6, c6, e6, -, h6⟩ := OW.out.view
      have R6 := Lib.hid h6
      have F6 := OW.out.lt
      subst e6
      have E6r := Lib.hid (show ∀ p, a6 = some p → p.block ≠ G + 1 + 1 from fun p hp => by have := F6 p.block (by subst hp; rfl); omega)
      clear F6 h6 OW
      clear bgc0 bgc1 bgc2 bpc0 bpc1 brc0 brc1
      obtain ⟨bgc0, bgc1, bgc2⟩ := three Kg.out
      obtain ⟨bpc0, bpc1⟩ := twob Kp.out
      obtain ⟨brc0, brc1⟩ := twob Kr.out
      have fzr := fun q => Kr.out.frozen q
      replace Kr := Lib.hid (show Blk (wr.setCell ⟨G + 1 + 1, 0, none⟩ (.slice a6 (waitK l ep lo N).length c6)) (G + 1 + 1) 58 #[.slice a6 (waitK l ep lo N).length c6, .int .i64 0] from Kr.out.set_ 0 (.slice a6 (waitK l ep lo N).length c6))
      replace R6 := Lib.hid (IntsA.far R6.out (p := ⟨G + 1 + 1, 0, none⟩) E6r.out (.slice a6 (waitK l ep lo N).length c6))
      replace B := Lib.hid (show Below w.heap.size w (wr.setCell ⟨G + 1 + 1, 0, none⟩ (.slice a6 (waitK l ep lo N).length c6)) from B.out.setCell (p := ⟨G + 1 + 1, 0, none⟩) (show w.heap.size ≤ G + 1 + 1 by have := HG.out; omega) (.slice a6 (waitK l ep lo N).length c6))
      replace Kr := Lib.hid (show Blk ((wr.setCell ⟨G + 1 + 1, 0, none⟩ (.slice a6 (waitK l ep lo N).length c6)).setCell ⟨G + 1 + 1, 1, none⟩ (.int .i64 0)) (G + 1 + 1) 58 #[.slice a6 (waitK l ep lo N).length c6, .int .i64 0] from Kr.out.set_ 1 (.int .i64 0))
      replace R6 := Lib.hid (IntsA.far R6.out (p := ⟨G + 1 + 1, 1, none⟩) E6r.out (.int .i64 0))
      replace B := Lib.hid (show Below w.heap.size w ((wr.setCell ⟨G + 1 + 1, 0, none⟩ (.slice a6 (waitK l ep lo N).length c6)).setCell ⟨G + 1 + 1, 1, none⟩ (.int .i64 0)) from B.out.setCell (p := ⟨G + 1 + 1, 1, none⟩) (show w.heap.size ≤ G + 1 + 1 by have := HG.out; omega) (.int .i64 0))
      go_wp2
      generalize hw : ((wr.setCell ⟨G + 1 + 1, 0, none⟩ (.slice a6 (waitK l ep lo N).length c6)).setCell ⟨G + 1 + 1, 1, none⟩ (.int .i64 0)) = w31 at Kr R6 B ⊢
      clear bgc0 bgc1 bgc2 bpc0 bpc1 brc0 brc1 fzr
      clear hw
      obtain ⟨d0, d1⟩ := twob Kr.out
      refine bodyPost_ret (by simp [results, Tryd.results19, go_sem, d0, d1]; try rfl) rfl ?_
      exact ⟨⟨a6, c6, rfl, R6.out⟩, B.out⟩
end Le
end Go.Proofs.YteblnmhaohbkkaaDoor
