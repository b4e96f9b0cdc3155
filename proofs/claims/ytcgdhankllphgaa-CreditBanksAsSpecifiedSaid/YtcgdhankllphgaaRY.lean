/- Contracts: the reference's NewBank, Out, Dealt, Deal, Returned. -/
import Derived.Test.YtcgdhankllphgaaRX
import Derived.Test.YtcgdhankllphgaaPV
import Derived.Test.YtcgdhankllphgaaDL
namespace Go.Proofs.Ytcgdhankllphgaa
set_option linter.unusedVariables false
set_option linter.unusedSimpArgs false
open Go.RowKit Go.Sort
theorem rowL_dealt (l : List Rw) (w g : Int) : (rowL l w g).2.2.1 = dealtL l w g := by unfold rowL dealtL; split <;> rfl
theorem rowL_back (l : List Rw) (w g : Int) : (rowL l w g).2.2.2 = backL l w g := by unfold rowL backL; split <;> rfl
theorem rowL_at (l : List Rw) (w g : Int) : (rowL l w g).1 = w ∧ (rowL l w g).2.1 = g := by
  unfold rowL
  split
  · rename_i h; exact cR_zero.1 ((hasC_iff _ _).1 h).2
  · exact ⟨rfl, rfl⟩
theorem rowL_is (l : List Rw) (w g : Int) : rowL l w g = (w, g, dealtL l w g, backL l w g) := by
  have key : ∀ x : Rw, ∀ a b c d : Int, x.1 = a → x.2.1 = b → x.2.2.1 = c → x.2.2.2 = d → x = (a, b, c, d) := fun x a b c d h1 h2 h3 h4 => by subst h1; subst h2; subst h3; subst h4; rfl
  obtain ⟨h1, h2⟩ := rowL_at l w g
  have h3 := rowL_dealt l w g
  have h4 := rowL_back l w g
  exact key _ _ _ _ _ h1 h2 h3 h4
theorem put_deal (l : List Rw) (w g n : Int) : putL l (posC (cR w g) l) (hasC (cR w g) l) (w, g, dealtL l w g + n, backL l w g) = dealL l w g n := by
  unfold putL dealL dealtL backL
  cases e : hasC (cR w g) l
  · simp
  · have h := cR_zero.1 ((hasC_iff _ _).1 e).2
    simp only [if_true]
    rw [h.1, h.2]
theorem put_ret (l : List Rw) (w g t : Int) (hh : hasC (cR w g) l = true) (ht : backL l w g ≤ t) : putL l (posC (cR w g) l) (hasC (cR w g) l) (w, g, dealtL l w g, t) = retL l w g t := by
  unfold putL retL dealtL
  unfold backL at ht
  rw [hh] at ht ⊢
  have h := cR_zero.1 ((hasC_iff _ _).1 hh).2
  simp only [if_true] at ht ⊢
  rw [h.1, h.2, Int.max_eq_right ht]
theorem back_bd {cap len : Int} {l : List Rw} (ok : OkB cap len l) (wi ga : Int) : 0 ≤ backL l wi ga ∧ backL l wi ga ≤ dealtL l wi ga := by
  unfold backL dealtL
  split
  · rename_i h
    have h2 := (ok.rows _ ((hasC_iff _ _).1 h).1).1
    exact h2.2.2.2
  · omega
set_option maxRecDepth 100000 in
set_option maxHeartbeats 2000000 in
theorem newbankref_yes (cap len : Int) (w : World) (ok : OkB cap len []) :
    Calls Try.prog 13 #[.int .i64 cap, .int .i64 len] w fun e w' => e = .returned (.agg #[.int .i64 cap, .int .i64 len, .slice none 0 0, .int .i64 0]) ∧ Below w.heap.size w w' := by
  have C := Lib.hid (fun X : World => rvalid_yes ok none 0 X (RowsA.nil _ _ _ _))
  simp only [List.length_nil] at C
  clear ok
  go_enter Try.func13, Try.ntmps13
  obtain ⟨G, hG⟩ : ∃ G, w.heap.size = G := ⟨_, rfl⟩
  have HG := Lib.hid hG
  have Kr := Lib.hid (show Blk (w.alloc (.cells #[.int .i64 0, .int .i64 0, .slice none 0 0, .int .i64 0] 34)) (G) 34 #[.int .i64 0, .int .i64 0, .slice none 0 0, .int .i64 0] from Blk.new' _ _ _ _ hG rfl)
  have B := Lib.hid (show Below w.heap.size w (w.alloc (.cells #[.int .i64 0, .int .i64 0, .slice none 0 0, .int .i64 0] 34)) by (repeat' (first | (with_reducible exact Below.refl _ _) | (with_reducible assumption) | (with_reducible refine Below.alloc ?_ ?_ _) | (with_reducible refine Below.drew ?_) | (with_reducible refine below_dn ?_) | (with_reducible refine Below.setCell ?_ ?_ _) | (with_reducible exact Nat.le_refl _) | omega | (simp only [World.size_alloc, World.size_setCell, World.size_drew]; omega) | (simp; omega) | (simp; done))))
  go_upto_region 1 with (fail)
  try rw [hG]
  generalize hw0 : (w.alloc (.cells #[.int .i64 0, .int .i64 0, .slice none 0 0, .int .i64 0] 34)) = w0 at Kr B ⊢
  clear hw0 hG
  obtain ⟨brc0, brc1, brc2, brc3⟩ := four Kr.out
  obtain ⟨gb, hgb⟩ : ∃ G, w0.heap.size = G := ⟨_, rfl⟩
  have Kb := Lib.hid (show Blk (w0.alloc (.cells #[.int .i64 cap, .int .i64 len, .slice none 0 0] 24)) gb 24 #[.int .i64 cap, .int .i64 len, .slice none 0 0] from Blk.new' w0 _ _ _ hgb rfl)
  have Nrb := Lib.hid (show G < gb from by rw [← hgb]; exact Kr.out.lt)
  replace Kr := Lib.hid (Kr.out.alloc (.cells #[.int .i64 cap, .int .i64 len, .slice none 0 0] 24))
  have Lb := Lib.hid (show w.heap.size ≤ gb from by rw [← hgb]; exact B.out.size)
  replace B := Lib.hid (B.out.alloc B.out.size (.cells #[.int .i64 cap, .int .i64 len, .slice none 0 0] 24))
  go_upto_region 2 with (fail)
  try rw [hgb]
  generalize hw : w0.alloc (.cells #[.int .i64 cap, .int .i64 len, .slice none 0 0] 24) = w1 at Kr Kb  B ⊢
  clear brc0 brc1 brc2 brc3
  clear hw hgb
  obtain ⟨brc0, brc1, brc2, brc3⟩ := four Kr.out
  obtain ⟨bbc0, bbc1, bbc2⟩ := three Kb.out
  go_wp2_with fail
  refine (C.out _).mono ?_
  rintro e w2 ⟨rfl, hb⟩
  replace Kr := Lib.hid (Kr.out.below hb Kr.out.lt)
  replace Kb := Lib.hid (Kb.out.below hb Kb.out.lt)
  replace B := Lib.hid (B.out.trans (hb.mono B.out.size))
  clear brc0 brc1 brc2 brc3 bbc0 bbc1 bbc2
  clear hb
  obtain ⟨brc0, brc1, brc2, brc3⟩ := four Kr.out
  obtain ⟨bbc0, bbc1, bbc2⟩ := three Kb.out
  clear brc0 brc1 brc2 brc3 bbc0 bbc1 bbc2
  obtain ⟨brc0, brc1, brc2, brc3⟩ := four Kr.out
  obtain ⟨bbc0, bbc1, bbc2⟩ := three Kb.out
  have fzr := fun q => Kr.out.frozen q
  go_wp2
  have K9 := Lib.hid (Kr.out.setR (.int .i64 cap) (.int .i64 len) (.slice none 0 0) (.int .i64 0))
  have B9 := ((((B.out.setCell (p := ⟨G, 0, none⟩) (show w.heap.size ≤ G by have := HG.out; omega) (.int .i64 cap)).setCell (p := ⟨G, 1, none⟩) (show w.heap.size ≤ G by have := HG.out; omega) (.int .i64 len)).setCell (p := ⟨G, 2, none⟩) (show w.heap.size ≤ G by have := HG.out; omega) (.slice none 0 0)).setCell (p := ⟨G, 3, none⟩) (show w.heap.size ≤ G by have := HG.out; omega) (.int .i64 0))
  generalize hw2 : ((((w2.setCell ⟨G, 0, none⟩ (.int .i64 cap)).setCell ⟨G, 1, none⟩ (.int .i64 len)).setCell ⟨G, 2, none⟩ (.slice none 0 0)).setCell ⟨G, 3, none⟩ (.int .i64 0)) = w9 at K9 B9 ⊢
  clear brc0 brc1 brc2 brc3 bbc0 bbc1 bbc2 fzr
  clear hw2
  obtain ⟨d0, d1, d2, d3⟩ := four K9.out
  refine bodyPost_ret (by simp [results, Try.results13, go_sem, d0, d1, d2, d3]; try rfl) rfl ?_
  exact ⟨rfl, B9⟩
set_option maxRecDepth 100000 in
set_option maxHeartbeats 2000000 in
theorem newbankref_no (cap len : Int) (w : World) (no : ¬ OkB cap len []) :
    Calls Try.prog 13 #[.int .i64 cap, .int .i64 len] w fun e w' => e = .returned (.agg #[.int .i64 0, .int .i64 0, .slice none 0 0, .int .i64 1]) ∧ Below w.heap.size w w' := by
  have C := Lib.hid (fun X : World => rvalid_no no (by simp) none 0 X (RowsA.nil _ _ _ _))
  simp only [List.length_nil] at C
  clear no
  go_enter Try.func13, Try.ntmps13
  obtain ⟨G, hG⟩ : ∃ G, w.heap.size = G := ⟨_, rfl⟩
  have HG := Lib.hid hG
  have Kr := Lib.hid (show Blk (w.alloc (.cells #[.int .i64 0, .int .i64 0, .slice none 0 0, .int .i64 0] 34)) (G) 34 #[.int .i64 0, .int .i64 0, .slice none 0 0, .int .i64 0] from Blk.new' _ _ _ _ hG rfl)
  have B := Lib.hid (show Below w.heap.size w (w.alloc (.cells #[.int .i64 0, .int .i64 0, .slice none 0 0, .int .i64 0] 34)) by (repeat' (first | (with_reducible exact Below.refl _ _) | (with_reducible assumption) | (with_reducible refine Below.alloc ?_ ?_ _) | (with_reducible refine Below.drew ?_) | (with_reducible refine below_dn ?_) | (with_reducible refine Below.setCell ?_ ?_ _) | (with_reducible exact Nat.le_refl _) | omega | (simp only [World.size_alloc, World.size_setCell, World.size_drew]; omega) | (simp; omega) | (simp; done))))
  go_upto_region 1 with (fail)
  try rw [hG]
  generalize hw0 : (w.alloc (.cells #[.int .i64 0, .int .i64 0, .slice none 0 0, .int .i64 0] 34)) = w0 at Kr B ⊢
  clear hw0 hG
  obtain ⟨brc0, brc1, brc2, brc3⟩ := four Kr.out
  obtain ⟨gb, hgb⟩ : ∃ G, w0.heap.size = G := ⟨_, rfl⟩
  have Kb := Lib.hid (show Blk (w0.alloc (.cells #[.int .i64 cap, .int .i64 len, .slice none 0 0] 24)) gb 24 #[.int .i64 cap, .int .i64 len, .slice none 0 0] from Blk.new' w0 _ _ _ hgb rfl)
  have Nrb := Lib.hid (show G < gb from by rw [← hgb]; exact Kr.out.lt)
  replace Kr := Lib.hid (Kr.out.alloc (.cells #[.int .i64 cap, .int .i64 len, .slice none 0 0] 24))
  have Lb := Lib.hid (show w.heap.size ≤ gb from by rw [← hgb]; exact B.out.size)
  replace B := Lib.hid (B.out.alloc B.out.size (.cells #[.int .i64 cap, .int .i64 len, .slice none 0 0] 24))
  go_upto_region 2 with (fail)
  try rw [hgb]
  generalize hw : w0.alloc (.cells #[.int .i64 cap, .int .i64 len, .slice none 0 0] 24) = w1 at Kr Kb  B ⊢
  clear brc0 brc1 brc2 brc3
  clear hw hgb
  obtain ⟨brc0, brc1, brc2, brc3⟩ := four Kr.out
  obtain ⟨bbc0, bbc1, bbc2⟩ := three Kb.out
  go_wp2_with fail
  refine (C.out _).mono ?_
  rintro e w2 ⟨rfl, hb⟩
  replace Kr := Lib.hid (Kr.out.below hb Kr.out.lt)
  replace Kb := Lib.hid (Kb.out.below hb Kb.out.lt)
  replace B := Lib.hid (B.out.trans (hb.mono B.out.size))
  clear brc0 brc1 brc2 brc3 bbc0 bbc1 bbc2
  clear hb
  obtain ⟨brc0, brc1, brc2, brc3⟩ := four Kr.out
  obtain ⟨bbc0, bbc1, bbc2⟩ := three Kb.out
  clear brc0 brc1 brc2 brc3 bbc0 bbc1 bbc2
  obtain ⟨brc0, brc1, brc2, brc3⟩ := four Kr.out
  obtain ⟨bbc0, bbc1, bbc2⟩ := three Kb.out
  have fzr := fun q => Kr.out.frozen q
  go_wp2
  have K9 := Lib.hid (Kr.out.setR (.int .i64 0) (.int .i64 0) (.slice none 0 0) (.int .i64 1))
  have B9 := ((((B.out.setCell (p := ⟨G, 0, none⟩) (show w.heap.size ≤ G by have := HG.out; omega) (.int .i64 0)).setCell (p := ⟨G, 1, none⟩) (show w.heap.size ≤ G by have := HG.out; omega) (.int .i64 0)).setCell (p := ⟨G, 2, none⟩) (show w.heap.size ≤ G by have := HG.out; omega) (.slice none 0 0)).setCell (p := ⟨G, 3, none⟩) (show w.heap.size ≤ G by have := HG.out; omega) (.int .i64 1))
  generalize hw2 : ((((w2.setCell ⟨G, 0, none⟩ (.int .i64 0)).setCell ⟨G, 1, none⟩ (.int .i64 0)).setCell ⟨G, 2, none⟩ (.slice none 0 0)).setCell ⟨G, 3, none⟩ (.int .i64 1)) = w9 at K9 B9 ⊢
  clear brc0 brc1 brc2 brc3 bbc0 bbc1 bbc2 fzr
  clear hw2
  obtain ⟨d0, d1, d2, d3⟩ := four K9.out
  refine bodyPost_ret (by simp [results, Try.results13, go_sem, d0, d1, d2, d3]; try rfl) rfl ?_
  exact ⟨rfl, B9⟩
set_option maxRecDepth 100000 in
set_option maxHeartbeats 2000000 in
theorem outr_any (cap len : Int) (a : Option Addr) (c : Nat) (l : List Rw) (wi : Int) (w : World) (hp : RwA w a l) (ok : OkB cap len l) :
    Calls Try.prog 23 #[.agg #[.int .i64 cap, .int .i64 len, .slice a l.length c], .int .i64 wi] w fun e w' => e = .returned (.int .i64 (outL l wi)) ∧ Below w.heap.size w w' := by
  have HP := Lib.hid hp
  have C := Lib.hid (fun (X : World) (h : RwA X a l) => rvalid_yes ok a c X h)
  have O := Lib.hid (fun (X : World) (h : RwA X a l) => outref_any cap len a c l wi X h ok)
  obtain ⟨N, hN⟩ : ∃ N, l.length = N := ⟨_, rfl⟩
  simp only [hN] at C O
  rw [hN]
  obtain ⟨R, hR⟩ : ∃ z, outL l wi = z := ⟨_, rfl⟩
  simp only [hR] at O
  rw [hR]
  clear hp hN ok hR
  go_enter Try.func23, Try.ntmps23
  obtain ⟨G, hG⟩ : ∃ G, w.heap.size = G := ⟨_, rfl⟩
  have HG := Lib.hid hG
  have Kb := Lib.hid (show Blk (w.alloc (.cells #[.int .i64 cap, .int .i64 len, .slice a N c] 24)) (G) 24 #[.int .i64 cap, .int .i64 len, .slice a N c] from Blk.new' _ _ _ _ hG rfl)
  have B := Lib.hid (show Below w.heap.size w (w.alloc (.cells #[.int .i64 cap, .int .i64 len, .slice a N c] 24)) by (repeat' (first | (with_reducible exact Below.refl _ _) | (with_reducible assumption) | (with_reducible refine Below.alloc ?_ ?_ _) | (with_reducible refine Below.drew ?_) | (with_reducible refine below_dn ?_) | (with_reducible refine Below.setCell ?_ ?_ _) | (with_reducible exact Nat.le_refl _) | omega | (simp only [World.size_alloc, World.size_setCell, World.size_drew]; omega) | (simp; omega) | (simp; done))))
  go_upto_region 1 with (fail)
  try rw [hG]
  generalize hw0 : (w.alloc (.cells #[.int .i64 cap, .int .i64 len, .slice a N c] 24)) = w0 at Kb B ⊢
  clear hw0 hG
  obtain ⟨bbc0, bbc1, bbc2⟩ := three Kb.out
  go_wp2_with fail
  refine (C.out _ (HP.out.mono B.out)).mono ?_
  rintro e w1 ⟨rfl, hb⟩
  replace Kb := Lib.hid (Kb.out.below hb Kb.out.lt)
  replace B := Lib.hid (B.out.trans (hb.mono B.out.size))
  clear bbc0 bbc1 bbc2
  clear hb
  obtain ⟨bbc0, bbc1, bbc2⟩ := three Kb.out
  go_wp2_with fail
  refine (O.out _ (HP.out.mono B.out)).mono ?_
  rintro e w2 ⟨rfl, hb⟩
  replace Kb := Lib.hid (Kb.out.below hb Kb.out.lt)
  replace B := Lib.hid (B.out.trans (hb.mono B.out.size))
  clear bbc0 bbc1 bbc2
  clear hb
  obtain ⟨bbc0, bbc1, bbc2⟩ := three Kb.out
  go_wp2
  go_ret
  exact ⟨rfl, B.out⟩
set_option maxRecDepth 100000 in
set_option maxHeartbeats 2000000 in
theorem outr_no (cap len : Int) (a : Option Addr) (c : Nat) (l : List Rw) (wi : Int) (w : World) (hp : RwA w a l) (no : ¬ OkB cap len l) (hm : l.length ≤ 9223372036854775807) :
    Calls Try.prog 23 #[.agg #[.int .i64 cap, .int .i64 len, .slice a l.length c], .int .i64 wi] w fun e w' => e = .returned (.int .i64 0) ∧ Below w.heap.size w w' := by
  have HP := Lib.hid hp
  have C := Lib.hid (fun (X : World) (h : RwA X a l) => rvalid_no no hm a c X h)
  obtain ⟨N, hN⟩ : ∃ N, l.length = N := ⟨_, rfl⟩
  simp only [hN] at C
  rw [hN]
  clear hp hN no hm
  go_enter Try.func23, Try.ntmps23
  obtain ⟨G, hG⟩ : ∃ G, w.heap.size = G := ⟨_, rfl⟩
  have HG := Lib.hid hG
  have Kb := Lib.hid (show Blk (w.alloc (.cells #[.int .i64 cap, .int .i64 len, .slice a N c] 24)) (G) 24 #[.int .i64 cap, .int .i64 len, .slice a N c] from Blk.new' _ _ _ _ hG rfl)
  have B := Lib.hid (show Below w.heap.size w (w.alloc (.cells #[.int .i64 cap, .int .i64 len, .slice a N c] 24)) by (repeat' (first | (with_reducible exact Below.refl _ _) | (with_reducible assumption) | (with_reducible refine Below.alloc ?_ ?_ _) | (with_reducible refine Below.drew ?_) | (with_reducible refine below_dn ?_) | (with_reducible refine Below.setCell ?_ ?_ _) | (with_reducible exact Nat.le_refl _) | omega | (simp only [World.size_alloc, World.size_setCell, World.size_drew]; omega) | (simp; omega) | (simp; done))))
  go_upto_region 1 with (fail)
  try rw [hG]
  generalize hw0 : (w.alloc (.cells #[.int .i64 cap, .int .i64 len, .slice a N c] 24)) = w0 at Kb B ⊢
  clear hw0 hG
  obtain ⟨bbc0, bbc1, bbc2⟩ := three Kb.out
  go_wp2_with fail
  refine (C.out _ (HP.out.mono B.out)).mono ?_
  rintro e w1 ⟨rfl, hb⟩
  replace Kb := Lib.hid (Kb.out.below hb Kb.out.lt)
  replace B := Lib.hid (B.out.trans (hb.mono B.out.size))
  clear bbc0 bbc1 bbc2
  clear hb
  obtain ⟨bbc0, bbc1, bbc2⟩ := three Kb.out
  go_wp2
  go_ret
  exact ⟨rfl, B.out⟩
set_option maxRecDepth 100000 in
set_option maxHeartbeats 2000000 in
theorem dealtr_any (cap len : Int) (a : Option Addr) (c : Nat) (l : List Rw) (wi ga : Int) (w : World) (hp : RwA w a l) (ok : OkB cap len l) :
    Calls Try.prog 21 #[.agg #[.int .i64 cap, .int .i64 len, .slice a l.length c], .int .i64 wi, .int .i64 ga] w fun e w' => e = .returned (.int .i64 (dealtL l wi ga)) ∧ Below w.heap.size w w' := by
  have HP := Lib.hid hp
  have C := Lib.hid (fun (X : World) (h : RwA X a l) => rvalid_yes ok a c X h)
  have RW := Lib.hid (fun (X : World) (h : RwA X a l) => rowref_any cap len a c l wi ga X h ok.ord (by have := ok.head.2.2; omega))
  simp only [rowL_is] at RW
  obtain ⟨x3, hx3⟩ : ∃ z, dealtL l wi ga = z := ⟨_, rfl⟩
  obtain ⟨x4, hx4⟩ : ∃ z, backL l wi ga = z := ⟨_, rfl⟩
  obtain ⟨hh, hhh⟩ : ∃ z, hasC (cR wi ga) l = z := ⟨_, rfl⟩
  simp only [hx3, hx4, hhh, encR] at RW
  rw [hx3]
  obtain ⟨N, hN⟩ : ∃ N, l.length = N := ⟨_, rfl⟩
  simp only [hN] at C RW
  rw [hN]
  clear hp hN ok hx3 hx4 hhh
  go_enter Try.func21, Try.ntmps21
  obtain ⟨G, hG⟩ : ∃ G, w.heap.size = G := ⟨_, rfl⟩
  have HG := Lib.hid hG
  have Kb := Lib.hid (show Blk (w.alloc (.cells #[.int .i64 cap, .int .i64 len, .slice a N c] 24)) (G) 24 #[.int .i64 cap, .int .i64 len, .slice a N c] from Blk.new' _ _ _ _ hG rfl)
  have B := Lib.hid (show Below w.heap.size w (w.alloc (.cells #[.int .i64 cap, .int .i64 len, .slice a N c] 24)) by (repeat' (first | (with_reducible exact Below.refl _ _) | (with_reducible assumption) | (with_reducible refine Below.alloc ?_ ?_ _) | (with_reducible refine Below.drew ?_) | (with_reducible refine below_dn ?_) | (with_reducible refine Below.setCell ?_ ?_ _) | (with_reducible exact Nat.le_refl _) | omega | (simp only [World.size_alloc, World.size_setCell, World.size_drew]; omega) | (simp; omega) | (simp; done))))
  go_upto_region 1 with (fail)
  try rw [hG]
  generalize hw0 : (w.alloc (.cells #[.int .i64 cap, .int .i64 len, .slice a N c] 24)) = w0 at Kb B ⊢
  clear hw0 hG
  obtain ⟨bbc0, bbc1, bbc2⟩ := three Kb.out
  go_wp2_with fail
  refine (C.out _ (HP.out.mono B.out)).mono ?_
  rintro e w1 ⟨rfl, hb⟩
  replace Kb := Lib.hid (Kb.out.below hb Kb.out.lt)
  replace B := Lib.hid (B.out.trans (hb.mono B.out.size))
  clear bbc0 bbc1 bbc2
  clear hb
  obtain ⟨bbc0, bbc1, bbc2⟩ := three Kb.out
  go_wp2_with fail
  refine (RW.out _ (HP.out.mono B.out)).mono ?_
  rintro e w2 ⟨rfl, hb⟩
  replace Kb := Lib.hid (Kb.out.below hb Kb.out.lt)
  replace B := Lib.hid (B.out.trans (hb.mono B.out.size))
  clear bbc0 bbc1 bbc2
  clear hb
  obtain ⟨bbc0, bbc1, bbc2⟩ := three Kb.out
  obtain ⟨gx, hgx⟩ : ∃ G, w2.heap.size = G := ⟨_, rfl⟩
  have Kx := Lib.hid (show Blk (w2.alloc (.cells #[.int .i64 wi, .int .i64 ga, .int .i64 x3, .int .i64 x4] 72)) gx 72 #[.int .i64 wi, .int .i64 ga, .int .i64 x3, .int .i64 x4] from Blk.new' w2 _ _ _ hgx rfl)
  have Nbx := Lib.hid (show G < gx from by rw [← hgx]; exact Kb.out.lt)
  replace Kb := Lib.hid (Kb.out.alloc (.cells #[.int .i64 wi, .int .i64 ga, .int .i64 x3, .int .i64 x4] 72))
  have Lx := Lib.hid (show w.heap.size ≤ gx from by rw [← hgx]; exact B.out.size)
  replace B := Lib.hid (B.out.alloc B.out.size (.cells #[.int .i64 wi, .int .i64 ga, .int .i64 x3, .int .i64 x4] 72))
  go_upto_region 5 with (fail)
  try rw [hgx]
  generalize hw : w2.alloc (.cells #[.int .i64 wi, .int .i64 ga, .int .i64 x3, .int .i64 x4] 72) = w3 at Kb Kx  B ⊢
  clear bbc0 bbc1 bbc2
  clear hw hgx
  obtain ⟨bbc0, bbc1, bbc2⟩ := three Kb.out
  obtain ⟨bxc0, bxc1, bxc2, bxc3⟩ := four Kx.out
  go_wp2
  go_ret
  exact ⟨rfl, B.out⟩
set_option maxRecDepth 100000 in
set_option maxHeartbeats 2000000 in
theorem dealtr_no (cap len : Int) (a : Option Addr) (c : Nat) (l : List Rw) (wi ga : Int) (w : World) (hp : RwA w a l) (no : ¬ OkB cap len l) (hm : l.length ≤ 9223372036854775807) :
    Calls Try.prog 21 #[.agg #[.int .i64 cap, .int .i64 len, .slice a l.length c], .int .i64 wi, .int .i64 ga] w fun e w' => e = .returned (.int .i64 0) ∧ Below w.heap.size w w' := by
  have HP := Lib.hid hp
  have C := Lib.hid (fun (X : World) (h : RwA X a l) => rvalid_no no hm a c X h)
  obtain ⟨N, hN⟩ : ∃ N, l.length = N := ⟨_, rfl⟩
  simp only [hN] at C
  rw [hN]
  clear hp hN no hm
  go_enter Try.func21, Try.ntmps21
  obtain ⟨G, hG⟩ : ∃ G, w.heap.size = G := ⟨_, rfl⟩
  have HG := Lib.hid hG
  have Kb := Lib.hid (show Blk (w.alloc (.cells #[.int .i64 cap, .int .i64 len, .slice a N c] 24)) (G) 24 #[.int .i64 cap, .int .i64 len, .slice a N c] from Blk.new' _ _ _ _ hG rfl)
  have B := Lib.hid (show Below w.heap.size w (w.alloc (.cells #[.int .i64 cap, .int .i64 len, .slice a N c] 24)) by (repeat' (first | (with_reducible exact Below.refl _ _) | (with_reducible assumption) | (with_reducible refine Below.alloc ?_ ?_ _) | (with_reducible refine Below.drew ?_) | (with_reducible refine below_dn ?_) | (with_reducible refine Below.setCell ?_ ?_ _) | (with_reducible exact Nat.le_refl _) | omega | (simp only [World.size_alloc, World.size_setCell, World.size_drew]; omega) | (simp; omega) | (simp; done))))
  go_upto_region 1 with (fail)
  try rw [hG]
  generalize hw0 : (w.alloc (.cells #[.int .i64 cap, .int .i64 len, .slice a N c] 24)) = w0 at Kb B ⊢
  clear hw0 hG
  obtain ⟨bbc0, bbc1, bbc2⟩ := three Kb.out
  go_wp2_with fail
  refine (C.out _ (HP.out.mono B.out)).mono ?_
  rintro e w1 ⟨rfl, hb⟩
  replace Kb := Lib.hid (Kb.out.below hb Kb.out.lt)
  replace B := Lib.hid (B.out.trans (hb.mono B.out.size))
  clear bbc0 bbc1 bbc2
  clear hb
  obtain ⟨bbc0, bbc1, bbc2⟩ := three Kb.out
  go_wp2
  go_ret
  exact ⟨rfl, B.out⟩
set_option maxRecDepth 100000 in
set_option maxHeartbeats 2000000 in
theorem dealref_arg (cap len : Int) (a : Option Addr) (c : Nat) (l : List Rw) (wi ga n : Int) (w : World) (hp : RwA w a l) (h : ¬ (OkB cap len l ∧ winOk wi ∧ gateOk ga ∧ 1 ≤ n ∧ n ≤ 1073741824)) (hm : l.length ≤ 9223372036854775807) :
    Calls Try.prog 14 #[.agg #[.int .i64 cap, .int .i64 len, .slice a l.length c], .int .i64 wi, .int .i64 ga, .int .i64 n] w fun e w' => e = .returned (.agg #[.int .i64 0, .int .i64 0, .slice none 0 0, .int .i64 1]) ∧ Below w.heap.size w w' := by
  have HP := Lib.hid hp
  obtain ⟨N, hN⟩ : ∃ N, l.length = N := ⟨_, rfl⟩
  by_cases ok : OkB cap len l
  · have C := Lib.hid (fun (X : World) (h : RwA X a l) => rvalid_yes ok a c X h)
    simp only [hN] at C
    by_cases p1 : winOk wi
    · have C1 := Lib.hid (fun W => rwin_yes p1 W)
      by_cases p2 : gateOk ga
      · have C2 := Lib.hid (fun W => rgate_yes p2 W)
        have h3 : ¬ (1 ≤ n ∧ n ≤ 1073741824) := fun q => h ⟨ok, p1, p2, q.1, q.2⟩
        rw [hN]
        clear h ok p1 p2 hp hN hm
        by_cases h1 : n < 1
        · have t1 : decide (n < 1) = true := decide_eq_true (by omega)
          clear h1 h3
          go_enter Try.func14, Try.ntmps14
          obtain ⟨G, hG⟩ : ∃ G, w.heap.size = G := ⟨_, rfl⟩
          have HG := Lib.hid hG
          have Kb := Lib.hid (show Blk ((w.alloc (.cells #[.int .i64 cap, .int .i64 len, .slice a N c] 24)).alloc (.cells #[.int .i64 0, .int .i64 0, .slice none 0 0, .int .i64 0] 34)) (G) 24 #[.int .i64 cap, .int .i64 len, .slice a N c] from (Blk.new' _ _ _ _ hG rfl).alloc _)
          have Kr := Lib.hid (show Blk ((w.alloc (.cells #[.int .i64 cap, .int .i64 len, .slice a N c] 24)).alloc (.cells #[.int .i64 0, .int .i64 0, .slice none 0 0, .int .i64 0] 34)) (G + 1) 34 #[.int .i64 0, .int .i64 0, .slice none 0 0, .int .i64 0] from Blk.new' _ _ _ _ (by rw [World.size_alloc, hG]) rfl)
          have B := Lib.hid (show Below w.heap.size w ((w.alloc (.cells #[.int .i64 cap, .int .i64 len, .slice a N c] 24)).alloc (.cells #[.int .i64 0, .int .i64 0, .slice none 0 0, .int .i64 0] 34)) by (repeat' (first | (with_reducible exact Below.refl _ _) | (with_reducible assumption) | (with_reducible refine Below.alloc ?_ ?_ _) | (with_reducible refine Below.drew ?_) | (with_reducible refine below_dn ?_) | (with_reducible refine Below.setCell ?_ ?_ _) | (with_reducible exact Nat.le_refl _) | omega | (simp only [World.size_alloc, World.size_setCell, World.size_drew]; omega) | (simp; omega) | (simp; done))))
          go_upto_region 1 with (fail)
          try rw [hG]
          generalize hw0 : ((w.alloc (.cells #[.int .i64 cap, .int .i64 len, .slice a N c] 24)).alloc (.cells #[.int .i64 0, .int .i64 0, .slice none 0 0, .int .i64 0] 34)) = w0 at Kb Kr B ⊢
          clear hw0 hG
          obtain ⟨bbc0, bbc1, bbc2⟩ := three Kb.out
          obtain ⟨brc0, brc1, brc2, brc3⟩ := four Kr.out
          go_wp2_with fail
          refine (C.out _ (HP.out.mono B.out)).mono ?_
          rintro e w1 ⟨rfl, hb⟩
          replace Kb := Lib.hid (Kb.out.below hb Kb.out.lt)
          replace Kr := Lib.hid (Kr.out.below hb Kr.out.lt)
          replace B := Lib.hid (B.out.trans (hb.mono B.out.size))
          clear bbc0 bbc1 bbc2 brc0 brc1 brc2 brc3
          clear hb
          obtain ⟨bbc0, bbc1, bbc2⟩ := three Kb.out
          obtain ⟨brc0, brc1, brc2, brc3⟩ := four Kr.out
          go_wp2_with fail
          refine (C1.out _).mono ?_
          rintro e wz ⟨rfl, rfl⟩
          go_wp2_with fail
          refine (C2.out _).mono ?_
          rintro e wz ⟨rfl, rfl⟩
          clear bbc0 bbc1 bbc2 brc0 brc1 brc2 brc3
          obtain ⟨bbc0, bbc1, bbc2⟩ := three Kb.out
          obtain ⟨brc0, brc1, brc2, brc3⟩ := four Kr.out
          have fzr := fun q => Kr.out.frozen q
          go_wp2
          have K9 := Lib.hid (Kr.out.setR (.int .i64 0) (.int .i64 0) (.slice none 0 0) (.int .i64 1))
          have B9 := ((((B.out.setCell (p := ⟨G + 1, 0, none⟩) (show w.heap.size ≤ G + 1 by have := HG.out; omega) (.int .i64 0)).setCell (p := ⟨G + 1, 1, none⟩) (show w.heap.size ≤ G + 1 by have := HG.out; omega) (.int .i64 0)).setCell (p := ⟨G + 1, 2, none⟩) (show w.heap.size ≤ G + 1 by have := HG.out; omega) (.slice none 0 0)).setCell (p := ⟨G + 1, 3, none⟩) (show w.heap.size ≤ G + 1 by have := HG.out; omega) (.int .i64 1))
          generalize hw2 : ((((w1.setCell ⟨G + 1, 0, none⟩ (.int .i64 0)).setCell ⟨G + 1, 1, none⟩ (.int .i64 0)).setCell ⟨G + 1, 2, none⟩ (.slice none 0 0)).setCell ⟨G + 1, 3, none⟩ (.int .i64 1)) = w9 at K9 B9 ⊢
          clear bbc0 bbc1 bbc2 brc0 brc1 brc2 brc3 fzr
          clear hw2
          obtain ⟨d0, d1, d2, d3⟩ := four K9.out
          refine bodyPost_ret (by simp [results, Try.results14, go_sem, d0, d1, d2, d3]; try rfl) rfl ?_
          exact ⟨rfl, B9⟩
        · have t1 : decide (n < 1) = false := decide_eq_false (by omega)
          have t2 : decide (1073741824 < n) = true := decide_eq_true (by omega)
          clear h1 h3
          go_enter Try.func14, Try.ntmps14
          obtain ⟨G, hG⟩ : ∃ G, w.heap.size = G := ⟨_, rfl⟩
          have HG := Lib.hid hG
          have Kb := Lib.hid (show Blk ((w.alloc (.cells #[.int .i64 cap, .int .i64 len, .slice a N c] 24)).alloc (.cells #[.int .i64 0, .int .i64 0, .slice none 0 0, .int .i64 0] 34)) (G) 24 #[.int .i64 cap, .int .i64 len, .slice a N c] from (Blk.new' _ _ _ _ hG rfl).alloc _)
          have Kr := Lib.hid (show Blk ((w.alloc (.cells #[.int .i64 cap, .int .i64 len, .slice a N c] 24)).alloc (.cells #[.int .i64 0, .int .i64 0, .slice none 0 0, .int .i64 0] 34)) (G + 1) 34 #[.int .i64 0, .int .i64 0, .slice none 0 0, .int .i64 0] from Blk.new' _ _ _ _ (by rw [World.size_alloc, hG]) rfl)
          have B := Lib.hid (show Below w.heap.size w ((w.alloc (.cells #[.int .i64 cap, .int .i64 len, .slice a N c] 24)).alloc (.cells #[.int .i64 0, .int .i64 0, .slice none 0 0, .int .i64 0] 34)) by (repeat' (first | (with_reducible exact Below.refl _ _) | (with_reducible assumption) | (with_reducible refine Below.alloc ?_ ?_ _) | (with_reducible refine Below.drew ?_) | (with_reducible refine below_dn ?_) | (with_reducible refine Below.setCell ?_ ?_ _) | (with_reducible exact Nat.le_refl _) | omega | (simp only [World.size_alloc, World.size_setCell, World.size_drew]; omega) | (simp; omega) | (simp; done))))
          go_upto_region 1 with (fail)
          try rw [hG]
          generalize hw0 : ((w.alloc (.cells #[.int .i64 cap, .int .i64 len, .slice a N c] 24)).alloc (.cells #[.int .i64 0, .int .i64 0, .slice none 0 0, .int .i64 0] 34)) = w0 at Kb Kr B ⊢
          clear hw0 hG
          obtain ⟨bbc0, bbc1, bbc2⟩ := three Kb.out
          obtain ⟨brc0, brc1, brc2, brc3⟩ := four Kr.out
          go_wp2_with fail
          refine (C.out _ (HP.out.mono B.out)).mono ?_
          rintro e w1 ⟨rfl, hb⟩
          replace Kb := Lib.hid (Kb.out.below hb Kb.out.lt)
          replace Kr := Lib.hid (Kr.out.below hb Kr.out.lt)
          replace B := Lib.hid (B.out.trans (hb.mono B.out.size))
          clear bbc0 bbc1 bbc2 brc0 brc1 brc2 brc3
          clear hb
          obtain ⟨bbc0, bbc1, bbc2⟩ := three Kb.out
          obtain ⟨brc0, brc1, brc2, brc3⟩ := four Kr.out
          go_wp2_with fail
          refine (C1.out _).mono ?_
          rintro e wz ⟨rfl, rfl⟩
          go_wp2_with fail
          refine (C2.out _).mono ?_
          rintro e wz ⟨rfl, rfl⟩
          clear bbc0 bbc1 bbc2 brc0 brc1 brc2 brc3
          obtain ⟨bbc0, bbc1, bbc2⟩ := three Kb.out
          obtain ⟨brc0, brc1, brc2, brc3⟩ := four Kr.out
          have fzr := fun q => Kr.out.frozen q
          go_wp2
          have K9 := Lib.hid (Kr.out.setR (.int .i64 0) (.int .i64 0) (.slice none 0 0) (.int .i64 1))
          have B9 := ((((B.out.setCell (p := ⟨G + 1, 0, none⟩) (show w.heap.size ≤ G + 1 by have := HG.out; omega) (.int .i64 0)).setCell (p := ⟨G + 1, 1, none⟩) (show w.heap.size ≤ G + 1 by have := HG.out; omega) (.int .i64 0)).setCell (p := ⟨G + 1, 2, none⟩) (show w.heap.size ≤ G + 1 by have := HG.out; omega) (.slice none 0 0)).setCell (p := ⟨G + 1, 3, none⟩) (show w.heap.size ≤ G + 1 by have := HG.out; omega) (.int .i64 1))
          generalize hw2 : ((((w1.setCell ⟨G + 1, 0, none⟩ (.int .i64 0)).setCell ⟨G + 1, 1, none⟩ (.int .i64 0)).setCell ⟨G + 1, 2, none⟩ (.slice none 0 0)).setCell ⟨G + 1, 3, none⟩ (.int .i64 1)) = w9 at K9 B9 ⊢
          clear bbc0 bbc1 bbc2 brc0 brc1 brc2 brc3 fzr
          clear hw2
          obtain ⟨d0, d1, d2, d3⟩ := four K9.out
          refine bodyPost_ret (by simp [results, Try.results14, go_sem, d0, d1, d2, d3]; try rfl) rfl ?_
          exact ⟨rfl, B9⟩
      · have C2 := Lib.hid (fun W => rgate_no p2 W)
        rw [hN]
        clear h ok p1 p2 hp hN hm
        go_enter Try.func14, Try.ntmps14
        obtain ⟨G, hG⟩ : ∃ G, w.heap.size = G := ⟨_, rfl⟩
        have HG := Lib.hid hG
        have Kb := Lib.hid (show Blk ((w.alloc (.cells #[.int .i64 cap, .int .i64 len, .slice a N c] 24)).alloc (.cells #[.int .i64 0, .int .i64 0, .slice none 0 0, .int .i64 0] 34)) (G) 24 #[.int .i64 cap, .int .i64 len, .slice a N c] from (Blk.new' _ _ _ _ hG rfl).alloc _)
        have Kr := Lib.hid (show Blk ((w.alloc (.cells #[.int .i64 cap, .int .i64 len, .slice a N c] 24)).alloc (.cells #[.int .i64 0, .int .i64 0, .slice none 0 0, .int .i64 0] 34)) (G + 1) 34 #[.int .i64 0, .int .i64 0, .slice none 0 0, .int .i64 0] from Blk.new' _ _ _ _ (by rw [World.size_alloc, hG]) rfl)
        have B := Lib.hid (show Below w.heap.size w ((w.alloc (.cells #[.int .i64 cap, .int .i64 len, .slice a N c] 24)).alloc (.cells #[.int .i64 0, .int .i64 0, .slice none 0 0, .int .i64 0] 34)) by (repeat' (first | (with_reducible exact Below.refl _ _) | (with_reducible assumption) | (with_reducible refine Below.alloc ?_ ?_ _) | (with_reducible refine Below.drew ?_) | (with_reducible refine below_dn ?_) | (with_reducible refine Below.setCell ?_ ?_ _) | (with_reducible exact Nat.le_refl _) | omega | (simp only [World.size_alloc, World.size_setCell, World.size_drew]; omega) | (simp; omega) | (simp; done))))
        go_upto_region 1 with (fail)
        try rw [hG]
        generalize hw0 : ((w.alloc (.cells #[.int .i64 cap, .int .i64 len, .slice a N c] 24)).alloc (.cells #[.int .i64 0, .int .i64 0, .slice none 0 0, .int .i64 0] 34)) = w0 at Kb Kr B ⊢
        clear hw0 hG
        obtain ⟨bbc0, bbc1, bbc2⟩ := three Kb.out
        obtain ⟨brc0, brc1, brc2, brc3⟩ := four Kr.out
        go_wp2_with fail
        refine (C.out _ (HP.out.mono B.out)).mono ?_
        rintro e w1 ⟨rfl, hb⟩
        replace Kb := Lib.hid (Kb.out.below hb Kb.out.lt)
        replace Kr := Lib.hid (Kr.out.below hb Kr.out.lt)
        replace B := Lib.hid (B.out.trans (hb.mono B.out.size))
        clear bbc0 bbc1 bbc2 brc0 brc1 brc2 brc3
        clear hb
        obtain ⟨bbc0, bbc1, bbc2⟩ := three Kb.out
        obtain ⟨brc0, brc1, brc2, brc3⟩ := four Kr.out
        go_wp2_with fail
        refine (C1.out _).mono ?_
        rintro e wz ⟨rfl, rfl⟩
        go_wp2_with fail
        refine (C2.out _).mono ?_
        rintro e wz ⟨rfl, rfl⟩
        clear bbc0 bbc1 bbc2 brc0 brc1 brc2 brc3
        obtain ⟨bbc0, bbc1, bbc2⟩ := three Kb.out
        obtain ⟨brc0, brc1, brc2, brc3⟩ := four Kr.out
        have fzr := fun q => Kr.out.frozen q
        go_wp2
        have K9 := Lib.hid (Kr.out.setR (.int .i64 0) (.int .i64 0) (.slice none 0 0) (.int .i64 1))
        have B9 := ((((B.out.setCell (p := ⟨G + 1, 0, none⟩) (show w.heap.size ≤ G + 1 by have := HG.out; omega) (.int .i64 0)).setCell (p := ⟨G + 1, 1, none⟩) (show w.heap.size ≤ G + 1 by have := HG.out; omega) (.int .i64 0)).setCell (p := ⟨G + 1, 2, none⟩) (show w.heap.size ≤ G + 1 by have := HG.out; omega) (.slice none 0 0)).setCell (p := ⟨G + 1, 3, none⟩) (show w.heap.size ≤ G + 1 by have := HG.out; omega) (.int .i64 1))
        generalize hw2 : ((((w1.setCell ⟨G + 1, 0, none⟩ (.int .i64 0)).setCell ⟨G + 1, 1, none⟩ (.int .i64 0)).setCell ⟨G + 1, 2, none⟩ (.slice none 0 0)).setCell ⟨G + 1, 3, none⟩ (.int .i64 1)) = w9 at K9 B9 ⊢
        clear bbc0 bbc1 bbc2 brc0 brc1 brc2 brc3 fzr
        clear hw2
        obtain ⟨d0, d1, d2, d3⟩ := four K9.out
        refine bodyPost_ret (by simp [results, Try.results14, go_sem, d0, d1, d2, d3]; try rfl) rfl ?_
        exact ⟨rfl, B9⟩
    · have C1 := Lib.hid (fun W => rwin_no p1 W)
      rw [hN]
      clear h ok p1 hp hN hm
      go_enter Try.func14, Try.ntmps14
      obtain ⟨G, hG⟩ : ∃ G, w.heap.size = G := ⟨_, rfl⟩
      have HG := Lib.hid hG
      have Kb := Lib.hid (show Blk ((w.alloc (.cells #[.int .i64 cap, .int .i64 len, .slice a N c] 24)).alloc (.cells #[.int .i64 0, .int .i64 0, .slice none 0 0, .int .i64 0] 34)) (G) 24 #[.int .i64 cap, .int .i64 len, .slice a N c] from (Blk.new' _ _ _ _ hG rfl).alloc _)
      have Kr := Lib.hid (show Blk ((w.alloc (.cells #[.int .i64 cap, .int .i64 len, .slice a N c] 24)).alloc (.cells #[.int .i64 0, .int .i64 0, .slice none 0 0, .int .i64 0] 34)) (G + 1) 34 #[.int .i64 0, .int .i64 0, .slice none 0 0, .int .i64 0] from Blk.new' _ _ _ _ (by rw [World.size_alloc, hG]) rfl)
      have B := Lib.hid (show Below w.heap.size w ((w.alloc (.cells #[.int .i64 cap, .int .i64 len, .slice a N c] 24)).alloc (.cells #[.int .i64 0, .int .i64 0, .slice none 0 0, .int .i64 0] 34)) by (repeat' (first | (with_reducible exact Below.refl _ _) | (with_reducible assumption) | (with_reducible refine Below.alloc ?_ ?_ _) | (with_reducible refine Below.drew ?_) | (with_reducible refine below_dn ?_) | (with_reducible refine Below.setCell ?_ ?_ _) | (with_reducible exact Nat.le_refl _) | omega | (simp only [World.size_alloc, World.size_setCell, World.size_drew]; omega) | (simp; omega) | (simp; done))))
      go_upto_region 1 with (fail)
      try rw [hG]
      generalize hw0 : ((w.alloc (.cells #[.int .i64 cap, .int .i64 len, .slice a N c] 24)).alloc (.cells #[.int .i64 0, .int .i64 0, .slice none 0 0, .int .i64 0] 34)) = w0 at Kb Kr B ⊢
      clear hw0 hG
      obtain ⟨bbc0, bbc1, bbc2⟩ := three Kb.out
      obtain ⟨brc0, brc1, brc2, brc3⟩ := four Kr.out
      go_wp2_with fail
      refine (C.out _ (HP.out.mono B.out)).mono ?_
      rintro e w1 ⟨rfl, hb⟩
      replace Kb := Lib.hid (Kb.out.below hb Kb.out.lt)
      replace Kr := Lib.hid (Kr.out.below hb Kr.out.lt)
      replace B := Lib.hid (B.out.trans (hb.mono B.out.size))
      clear bbc0 bbc1 bbc2 brc0 brc1 brc2 brc3
      clear hb
      obtain ⟨bbc0, bbc1, bbc2⟩ := three Kb.out
      obtain ⟨brc0, brc1, brc2, brc3⟩ := four Kr.out
      go_wp2_with fail
      refine (C1.out _).mono ?_
      rintro e wz ⟨rfl, rfl⟩
      clear bbc0 bbc1 bbc2 brc0 brc1 brc2 brc3
      obtain ⟨bbc0, bbc1, bbc2⟩ := three Kb.out
      obtain ⟨brc0, brc1, brc2, brc3⟩ := four Kr.out
      have fzr := fun q => Kr.out.frozen q
      go_wp2
      have K9 := Lib.hid (Kr.out.setR (.int .i64 0) (.int .i64 0) (.slice none 0 0) (.int .i64 1))
      have B9 := ((((B.out.setCell (p := ⟨G + 1, 0, none⟩) (show w.heap.size ≤ G + 1 by have := HG.out; omega) (.int .i64 0)).setCell (p := ⟨G + 1, 1, none⟩) (show w.heap.size ≤ G + 1 by have := HG.out; omega) (.int .i64 0)).setCell (p := ⟨G + 1, 2, none⟩) (show w.heap.size ≤ G + 1 by have := HG.out; omega) (.slice none 0 0)).setCell (p := ⟨G + 1, 3, none⟩) (show w.heap.size ≤ G + 1 by have := HG.out; omega) (.int .i64 1))
      generalize hw2 : ((((w1.setCell ⟨G + 1, 0, none⟩ (.int .i64 0)).setCell ⟨G + 1, 1, none⟩ (.int .i64 0)).setCell ⟨G + 1, 2, none⟩ (.slice none 0 0)).setCell ⟨G + 1, 3, none⟩ (.int .i64 1)) = w9 at K9 B9 ⊢
      clear bbc0 bbc1 bbc2 brc0 brc1 brc2 brc3 fzr
      clear hw2
      obtain ⟨d0, d1, d2, d3⟩ := four K9.out
      refine bodyPost_ret (by simp [results, Try.results14, go_sem, d0, d1, d2, d3]; try rfl) rfl ?_
      exact ⟨rfl, B9⟩
  · have C := Lib.hid (fun (X : World) (h : RwA X a l) => rvalid_no ok hm a c X h)
    simp only [hN] at C
    rw [hN]
    clear h ok hp hN hm
    go_enter Try.func14, Try.ntmps14
    obtain ⟨G, hG⟩ : ∃ G, w.heap.size = G := ⟨_, rfl⟩
    have HG := Lib.hid hG
    have Kb := Lib.hid (show Blk ((w.alloc (.cells #[.int .i64 cap, .int .i64 len, .slice a N c] 24)).alloc (.cells #[.int .i64 0, .int .i64 0, .slice none 0 0, .int .i64 0] 34)) (G) 24 #[.int .i64 cap, .int .i64 len, .slice a N c] from (Blk.new' _ _ _ _ hG rfl).alloc _)
    have Kr := Lib.hid (show Blk ((w.alloc (.cells #[.int .i64 cap, .int .i64 len, .slice a N c] 24)).alloc (.cells #[.int .i64 0, .int .i64 0, .slice none 0 0, .int .i64 0] 34)) (G + 1) 34 #[.int .i64 0, .int .i64 0, .slice none 0 0, .int .i64 0] from Blk.new' _ _ _ _ (by rw [World.size_alloc, hG]) rfl)
    have B := Lib.hid (show Below w.heap.size w ((w.alloc (.cells #[.int .i64 cap, .int .i64 len, .slice a N c] 24)).alloc (.cells #[.int .i64 0, .int .i64 0, .slice none 0 0, .int .i64 0] 34)) by (repeat' (first | (with_reducible exact Below.refl _ _) | (with_reducible assumption) | (with_reducible refine Below.alloc ?_ ?_ _) | (with_reducible refine Below.drew ?_) | (with_reducible refine below_dn ?_) | (with_reducible refine Below.setCell ?_ ?_ _) | (with_reducible exact Nat.le_refl _) | omega | (simp only [World.size_alloc, World.size_setCell, World.size_drew]; omega) | (simp; omega) | (simp; done))))
    go_upto_region 1 with (fail)
    try rw [hG]
    generalize hw0 : ((w.alloc (.cells #[.int .i64 cap, .int .i64 len, .slice a N c] 24)).alloc (.cells #[.int .i64 0, .int .i64 0, .slice none 0 0, .int .i64 0] 34)) = w0 at Kb Kr B ⊢
    clear hw0 hG
    obtain ⟨bbc0, bbc1, bbc2⟩ := three Kb.out
    obtain ⟨brc0, brc1, brc2, brc3⟩ := four Kr.out
    go_wp2_with fail
    refine (C.out _ (HP.out.mono B.out)).mono ?_
    rintro e w1 ⟨rfl, hb⟩
    replace Kb := Lib.hid (Kb.out.below hb Kb.out.lt)
    replace Kr := Lib.hid (Kr.out.below hb Kr.out.lt)
    replace B := Lib.hid (B.out.trans (hb.mono B.out.size))
    clear bbc0 bbc1 bbc2 brc0 brc1 brc2 brc3
    clear hb
    obtain ⟨bbc0, bbc1, bbc2⟩ := three Kb.out
    obtain ⟨brc0, brc1, brc2, brc3⟩ := four Kr.out
    clear bbc0 bbc1 bbc2 brc0 brc1 brc2 brc3
    obtain ⟨bbc0, bbc1, bbc2⟩ := three Kb.out
    obtain ⟨brc0, brc1, brc2, brc3⟩ := four Kr.out
    have fzr := fun q => Kr.out.frozen q
    go_wp2
    have K9 := Lib.hid (Kr.out.setR (.int .i64 0) (.int .i64 0) (.slice none 0 0) (.int .i64 1))
    have B9 := ((((B.out.setCell (p := ⟨G + 1, 0, none⟩) (show w.heap.size ≤ G + 1 by have := HG.out; omega) (.int .i64 0)).setCell (p := ⟨G + 1, 1, none⟩) (show w.heap.size ≤ G + 1 by have := HG.out; omega) (.int .i64 0)).setCell (p := ⟨G + 1, 2, none⟩) (show w.heap.size ≤ G + 1 by have := HG.out; omega) (.slice none 0 0)).setCell (p := ⟨G + 1, 3, none⟩) (show w.heap.size ≤ G + 1 by have := HG.out; omega) (.int .i64 1))
    generalize hw2 : ((((w1.setCell ⟨G + 1, 0, none⟩ (.int .i64 0)).setCell ⟨G + 1, 1, none⟩ (.int .i64 0)).setCell ⟨G + 1, 2, none⟩ (.slice none 0 0)).setCell ⟨G + 1, 3, none⟩ (.int .i64 1)) = w9 at K9 B9 ⊢
    clear bbc0 bbc1 bbc2 brc0 brc1 brc2 brc3 fzr
    clear hw2
    obtain ⟨d0, d1, d2, d3⟩ := four K9.out
    refine bodyPost_ret (by simp [results, Try.results14, go_sem, d0, d1, d2, d3]; try rfl) rfl ?_
    exact ⟨rfl, B9⟩
set_option maxRecDepth 100000 in
set_option maxHeartbeats 2000000 in
theorem dealref_limit (cap len : Int) (a : Option Addr) (c : Nat) (l : List Rw) (wi ga n : Int) (w : World) (hp : RwA w a l) (ok : OkB cap len l) (p1 : winOk wi) (p2 : gateOk ga) (p3 : 1 ≤ n ∧ n ≤ 1073741824) (h : cap < outL l wi + n ∨ 1099511627776 < dealtL l wi ga + n ∨ (hasC (cR wi ga) l = false ∧ 10000 ≤ l.length)) :
    Calls Try.prog 14 #[.agg #[.int .i64 cap, .int .i64 len, .slice a l.length c], .int .i64 wi, .int .i64 ga, .int .i64 n] w fun e w' => e = .returned (.agg #[.int .i64 0, .int .i64 0, .slice none 0 0, .int .i64 2]) ∧ Below w.heap.size w w' := by
  have HP := Lib.hid hp
  have hm := ok.head.2.2
  have bd := dealt_bd ok wi ga
  have ob := outK_bd ok wi l.length (Nat.le_refl _)
  rw [show outK l wi l.length = outL l wi from rfl] at ob
  have C := Lib.hid (fun (X : World) (h : RwA X a l) => rvalid_yes ok a c X h)
  have C1 := Lib.hid (fun W => rwin_yes p1 W)
  have C2 := Lib.hid (fun W => rgate_yes p2 W)
  have OU := Lib.hid (fun (X : World) (h : RwA X a l) => outref_any cap len a c l wi X h ok)
  have t1 : decide (n < 1) = false := decide_eq_false (by omega)
  have t2 : decide (1073741824 < n) = false := decide_eq_false (by omega)
  have RW := Lib.hid (fun (X : World) (h : RwA X a l) => rowref_any cap len a c l wi ga X h ok.ord (by have := ok.head.2.2; omega))
  simp only [rowL_is] at RW
  obtain ⟨x3, hx3⟩ : ∃ z, dealtL l wi ga = z := ⟨_, rfl⟩
  obtain ⟨x4, hx4⟩ : ∃ z, backL l wi ga = z := ⟨_, rfl⟩
  obtain ⟨hh, hhh⟩ : ∃ z, hasC (cR wi ga) l = z := ⟨_, rfl⟩
  simp only [hx3, hx4, hhh, encR] at RW
  obtain ⟨N, hN⟩ : ∃ N, l.length = N := ⟨_, rfl⟩
  simp only [hN] at C OU RW
  obtain ⟨O, hO⟩ : ∃ z, outL l wi = z := ⟨_, rfl⟩
  rw [hO] at ob h
  simp only [hO] at OU
  rw [hx3] at bd h
  rw [hhh, hN] at h
  rw [hN] at hm ob
  have ob2 : 0 ≤ O ∧ O ≤ 10995116277760000 := by omega
  have wP : IntKind.i64.wrap (O + n) = O + n := by rw [IntKind.wrap_i64]; omega
  have wQ : IntKind.i64.wrap (x3 + n) = x3 + n := by rw [IntKind.wrap_i64]; omega
  obtain ⟨P, hP⟩ : ∃ z, O + n = z := ⟨_, rfl⟩
  obtain ⟨Q, hQ⟩ : ∃ z, x3 + n = z := ⟨_, rfl⟩
  rw [hP] at wP h
  rw [hQ] at wQ h
  have wP2 : IntKind.i64.wrap P = P := wP
  have wQ2 : IntKind.i64.wrap Q = Q := wQ
  rw [hN]
  by_cases l1 : cap < P
  · have s1 : decide (cap < P) = true := decide_eq_true l1
    clear h l1 hN
    clear ob ob2 bd hx3 hx4 hhh hO hp ok p1 p2 p3 hm
    go_enter Try.func14, Try.ntmps14
    obtain ⟨G, hG⟩ : ∃ G, w.heap.size = G := ⟨_, rfl⟩
    have HG := Lib.hid hG
    have Kb := Lib.hid (show Blk ((w.alloc (.cells #[.int .i64 cap, .int .i64 len, .slice a N c] 24)).alloc (.cells #[.int .i64 0, .int .i64 0, .slice none 0 0, .int .i64 0] 34)) (G) 24 #[.int .i64 cap, .int .i64 len, .slice a N c] from (Blk.new' _ _ _ _ hG rfl).alloc _)
    have Kr := Lib.hid (show Blk ((w.alloc (.cells #[.int .i64 cap, .int .i64 len, .slice a N c] 24)).alloc (.cells #[.int .i64 0, .int .i64 0, .slice none 0 0, .int .i64 0] 34)) (G + 1) 34 #[.int .i64 0, .int .i64 0, .slice none 0 0, .int .i64 0] from Blk.new' _ _ _ _ (by rw [World.size_alloc, hG]) rfl)
    have B := Lib.hid (show Below w.heap.size w ((w.alloc (.cells #[.int .i64 cap, .int .i64 len, .slice a N c] 24)).alloc (.cells #[.int .i64 0, .int .i64 0, .slice none 0 0, .int .i64 0] 34)) by (repeat' (first | (with_reducible exact Below.refl _ _) | (with_reducible assumption) | (with_reducible refine Below.alloc ?_ ?_ _) | (with_reducible refine Below.drew ?_) | (with_reducible refine below_dn ?_) | (with_reducible refine Below.setCell ?_ ?_ _) | (with_reducible exact Nat.le_refl _) | omega | (simp only [World.size_alloc, World.size_setCell, World.size_drew]; omega) | (simp; omega) | (simp; done))))
    go_upto_region 1 with (fail)
    try rw [hG]
    generalize hw0 : ((w.alloc (.cells #[.int .i64 cap, .int .i64 len, .slice a N c] 24)).alloc (.cells #[.int .i64 0, .int .i64 0, .slice none 0 0, .int .i64 0] 34)) = w0 at Kb Kr B ⊢
    clear hw0 hG
    obtain ⟨bbc0, bbc1, bbc2⟩ := three Kb.out
    obtain ⟨brc0, brc1, brc2, brc3⟩ := four Kr.out
    go_wp2_with fail
    refine (C.out _ (HP.out.mono B.out)).mono ?_
    rintro e w1 ⟨rfl, hb⟩
    replace Kb := Lib.hid (Kb.out.below hb Kb.out.lt)
    replace Kr := Lib.hid (Kr.out.below hb Kr.out.lt)
    replace B := Lib.hid (B.out.trans (hb.mono B.out.size))
    clear bbc0 bbc1 bbc2 brc0 brc1 brc2 brc3
    clear hb
    obtain ⟨bbc0, bbc1, bbc2⟩ := three Kb.out
    obtain ⟨brc0, brc1, brc2, brc3⟩ := four Kr.out
    go_wp2_with fail
    refine (C1.out _).mono ?_
    rintro e wz ⟨rfl, rfl⟩
    go_wp2_with fail
    refine (C2.out _).mono ?_
    rintro e wz ⟨rfl, rfl⟩
    go_wp2_with fail
    refine (RW.out _ (HP.out.mono B.out)).mono ?_
    rintro e w2 ⟨rfl, hb⟩
    replace Kb := Lib.hid (Kb.out.below hb Kb.out.lt)
    replace Kr := Lib.hid (Kr.out.below hb Kr.out.lt)
    replace B := Lib.hid (B.out.trans (hb.mono B.out.size))
    clear bbc0 bbc1 bbc2 brc0 brc1 brc2 brc3
    clear hb
    obtain ⟨bbc0, bbc1, bbc2⟩ := three Kb.out
    obtain ⟨brc0, brc1, brc2, brc3⟩ := four Kr.out
    obtain ⟨gx, hgx⟩ : ∃ G, w2.heap.size = G := ⟨_, rfl⟩
    have Kx := Lib.hid (show Blk (w2.alloc (.cells #[.int .i64 wi, .int .i64 ga, .int .i64 x3, .int .i64 x4] 72)) gx 72 #[.int .i64 wi, .int .i64 ga, .int .i64 x3, .int .i64 x4] from Blk.new' w2 _ _ _ hgx rfl)
    have Nbx := Lib.hid (show G < gx from by rw [← hgx]; exact Kb.out.lt)
    replace Kb := Lib.hid (Kb.out.alloc (.cells #[.int .i64 wi, .int .i64 ga, .int .i64 x3, .int .i64 x4] 72))
    have Nrx := Lib.hid (show G + 1 < gx from by rw [← hgx]; exact Kr.out.lt)
    replace Kr := Lib.hid (Kr.out.alloc (.cells #[.int .i64 wi, .int .i64 ga, .int .i64 x3, .int .i64 x4] 72))
    have Lx := Lib.hid (show w.heap.size ≤ gx from by rw [← hgx]; exact B.out.size)
    replace B := Lib.hid (B.out.alloc B.out.size (.cells #[.int .i64 wi, .int .i64 ga, .int .i64 x3, .int .i64 x4] 72))
    go_upto_region 4 with (fail)
    try rw [hgx]
    generalize hw : w2.alloc (.cells #[.int .i64 wi, .int .i64 ga, .int .i64 x3, .int .i64 x4] 72) = w3 at Kb Kr Kx  B ⊢
    clear bbc0 bbc1 bbc2 brc0 brc1 brc2 brc3
    clear hw hgx
    have HP2 := Lib.hid (HP.out.mono B.out)
    have QO := Lib.hid (fun (d : Nat) (os : Array Obj) => OU.out (grow (redrawn w3 d) os) (HP2.out.mono (below_regrown _ _ _)))
    obtain ⟨bbc0, bbc1, bbc2⟩ := three Kb.out
    obtain ⟨brc0, brc1, brc2, brc3⟩ := four Kr.out
    obtain ⟨bxc0, bxc1, bxc2, bxc3⟩ := four Kx.out
    have gc := grow_cell3
    have zzb := Kb.out.lt
    have zzr := Kr.out.lt
    have zzx := Kx.out.lt
    go_wp2_with fail
    refine wp_region_quiet_below (by kernel_rfl) (by kernel_rfl) ?_
    repeat (go_big_quiet_step (first | (with_reducible exact Calls.regrown_of (QO.out _ _))))
    refine wpQuiet_nil ?_
    intro w4 hw'
    obtain ⟨⟨dq, osq⟩, hw''⟩ := hw'
    have hb := below_of_grow3 hw''
    clear hw'' gc zzb zzr zzx
    replace Kb := Lib.hid (Kb.out.below hb Kb.out.lt)
    replace Kr := Lib.hid (Kr.out.below hb Kr.out.lt)
    replace Kx := Lib.hid (Kx.out.below hb Kx.out.lt)
    replace B := Lib.hid (B.out.trans (hb.mono B.out.size))
    clear hb
    clear bbc0 bbc1 bbc2 brc0 brc1 brc2 brc3 bxc0 bxc1 bxc2 bxc3
    clear QO HP2
    obtain ⟨bbc0, bbc1, bbc2⟩ := three Kb.out
    obtain ⟨brc0, brc1, brc2, brc3⟩ := four Kr.out
    obtain ⟨bxc0, bxc1, bxc2, bxc3⟩ := four Kx.out
    have fzr := fun q => Kr.out.frozen q
    go_wp2
    have K9 := Lib.hid (Kr.out.setR (.int .i64 0) (.int .i64 0) (.slice none 0 0) (.int .i64 2))
    have B9 := ((((B.out.setCell (p := ⟨G + 1, 0, none⟩) (show w.heap.size ≤ G + 1 by have := HG.out; omega) (.int .i64 0)).setCell (p := ⟨G + 1, 1, none⟩) (show w.heap.size ≤ G + 1 by have := HG.out; omega) (.int .i64 0)).setCell (p := ⟨G + 1, 2, none⟩) (show w.heap.size ≤ G + 1 by have := HG.out; omega) (.slice none 0 0)).setCell (p := ⟨G + 1, 3, none⟩) (show w.heap.size ≤ G + 1 by have := HG.out; omega) (.int .i64 2))
    generalize hw2 : ((((w4.setCell ⟨G + 1, 0, none⟩ (.int .i64 0)).setCell ⟨G + 1, 1, none⟩ (.int .i64 0)).setCell ⟨G + 1, 2, none⟩ (.slice none 0 0)).setCell ⟨G + 1, 3, none⟩ (.int .i64 2)) = w9 at K9 B9 ⊢
    clear bbc0 bbc1 bbc2 brc0 brc1 brc2 brc3 bxc0 bxc1 bxc2 bxc3 fzr
    clear hw2
    obtain ⟨d0, d1, d2, d3⟩ := four K9.out
    refine bodyPost_ret (by simp [results, Try.results14, go_sem, d0, d1, d2, d3]; try rfl) rfl ?_
    exact ⟨rfl, B9⟩
  · have s1 : decide (cap < P) = false := decide_eq_false l1
    by_cases l2 : 1099511627776 < Q
    · have s2 : decide (1099511627776 < Q) = true := decide_eq_true l2
      clear h l1 l2 hN
      clear ob ob2 bd hx3 hx4 hhh hO hp ok p1 p2 p3 hm
      go_enter Try.func14, Try.ntmps14
      obtain ⟨G, hG⟩ : ∃ G, w.heap.size = G := ⟨_, rfl⟩
      have HG := Lib.hid hG
      have Kb := Lib.hid (show Blk ((w.alloc (.cells #[.int .i64 cap, .int .i64 len, .slice a N c] 24)).alloc (.cells #[.int .i64 0, .int .i64 0, .slice none 0 0, .int .i64 0] 34)) (G) 24 #[.int .i64 cap, .int .i64 len, .slice a N c] from (Blk.new' _ _ _ _ hG rfl).alloc _)
      have Kr := Lib.hid (show Blk ((w.alloc (.cells #[.int .i64 cap, .int .i64 len, .slice a N c] 24)).alloc (.cells #[.int .i64 0, .int .i64 0, .slice none 0 0, .int .i64 0] 34)) (G + 1) 34 #[.int .i64 0, .int .i64 0, .slice none 0 0, .int .i64 0] from Blk.new' _ _ _ _ (by rw [World.size_alloc, hG]) rfl)
      have B := Lib.hid (show Below w.heap.size w ((w.alloc (.cells #[.int .i64 cap, .int .i64 len, .slice a N c] 24)).alloc (.cells #[.int .i64 0, .int .i64 0, .slice none 0 0, .int .i64 0] 34)) by (repeat' (first | (with_reducible exact Below.refl _ _) | (with_reducible assumption) | (with_reducible refine Below.alloc ?_ ?_ _) | (with_reducible refine Below.drew ?_) | (with_reducible refine below_dn ?_) | (with_reducible refine Below.setCell ?_ ?_ _) | (with_reducible exact Nat.le_refl _) | omega | (simp only [World.size_alloc, World.size_setCell, World.size_drew]; omega) | (simp; omega) | (simp; done))))
      go_upto_region 1 with (fail)
      try rw [hG]
      generalize hw0 : ((w.alloc (.cells #[.int .i64 cap, .int .i64 len, .slice a N c] 24)).alloc (.cells #[.int .i64 0, .int .i64 0, .slice none 0 0, .int .i64 0] 34)) = w0 at Kb Kr B ⊢
      clear hw0 hG
      obtain ⟨bbc0, bbc1, bbc2⟩ := three Kb.out
      obtain ⟨brc0, brc1, brc2, brc3⟩ := four Kr.out
      go_wp2_with fail
      refine (C.out _ (HP.out.mono B.out)).mono ?_
      rintro e w1 ⟨rfl, hb⟩
      replace Kb := Lib.hid (Kb.out.below hb Kb.out.lt)
      replace Kr := Lib.hid (Kr.out.below hb Kr.out.lt)
      replace B := Lib.hid (B.out.trans (hb.mono B.out.size))
      clear bbc0 bbc1 bbc2 brc0 brc1 brc2 brc3
      clear hb
      obtain ⟨bbc0, bbc1, bbc2⟩ := three Kb.out
      obtain ⟨brc0, brc1, brc2, brc3⟩ := four Kr.out
      go_wp2_with fail
      refine (C1.out _).mono ?_
      rintro e wz ⟨rfl, rfl⟩
      go_wp2_with fail
      refine (C2.out _).mono ?_
      rintro e wz ⟨rfl, rfl⟩
      go_wp2_with fail
      refine (RW.out _ (HP.out.mono B.out)).mono ?_
      rintro e w2 ⟨rfl, hb⟩
      replace Kb := Lib.hid (Kb.out.below hb Kb.out.lt)
      replace Kr := Lib.hid (Kr.out.below hb Kr.out.lt)
      replace B := Lib.hid (B.out.trans (hb.mono B.out.size))
      clear bbc0 bbc1 bbc2 brc0 brc1 brc2 brc3
      clear hb
      obtain ⟨bbc0, bbc1, bbc2⟩ := three Kb.out
      obtain ⟨brc0, brc1, brc2, brc3⟩ := four Kr.out
      obtain ⟨gx, hgx⟩ : ∃ G, w2.heap.size = G := ⟨_, rfl⟩
      have Kx := Lib.hid (show Blk (w2.alloc (.cells #[.int .i64 wi, .int .i64 ga, .int .i64 x3, .int .i64 x4] 72)) gx 72 #[.int .i64 wi, .int .i64 ga, .int .i64 x3, .int .i64 x4] from Blk.new' w2 _ _ _ hgx rfl)
      have Nbx := Lib.hid (show G < gx from by rw [← hgx]; exact Kb.out.lt)
      replace Kb := Lib.hid (Kb.out.alloc (.cells #[.int .i64 wi, .int .i64 ga, .int .i64 x3, .int .i64 x4] 72))
      have Nrx := Lib.hid (show G + 1 < gx from by rw [← hgx]; exact Kr.out.lt)
      replace Kr := Lib.hid (Kr.out.alloc (.cells #[.int .i64 wi, .int .i64 ga, .int .i64 x3, .int .i64 x4] 72))
      have Lx := Lib.hid (show w.heap.size ≤ gx from by rw [← hgx]; exact B.out.size)
      replace B := Lib.hid (B.out.alloc B.out.size (.cells #[.int .i64 wi, .int .i64 ga, .int .i64 x3, .int .i64 x4] 72))
      go_upto_region 4 with (fail)
      try rw [hgx]
      generalize hw : w2.alloc (.cells #[.int .i64 wi, .int .i64 ga, .int .i64 x3, .int .i64 x4] 72) = w3 at Kb Kr Kx  B ⊢
      clear bbc0 bbc1 bbc2 brc0 brc1 brc2 brc3
      clear hw hgx
      have HP2 := Lib.hid (HP.out.mono B.out)
      have QO := Lib.hid (fun (d : Nat) (os : Array Obj) => OU.out (grow (redrawn w3 d) os) (HP2.out.mono (below_regrown _ _ _)))
      obtain ⟨bbc0, bbc1, bbc2⟩ := three Kb.out
      obtain ⟨brc0, brc1, brc2, brc3⟩ := four Kr.out
      obtain ⟨bxc0, bxc1, bxc2, bxc3⟩ := four Kx.out
      have gc := grow_cell3
      have zzb := Kb.out.lt
      have zzr := Kr.out.lt
      have zzx := Kx.out.lt
      go_wp2_with fail
      refine wp_region_quiet_below (by kernel_rfl) (by kernel_rfl) ?_
      repeat (go_big_quiet_step (first | (with_reducible exact Calls.regrown_of (QO.out _ _))))
      refine wpQuiet_nil ?_
      intro w4 hw'
      obtain ⟨⟨dq, osq⟩, hw''⟩ := hw'
      have hb := below_of_grow3 hw''
      clear hw'' gc zzb zzr zzx
      replace Kb := Lib.hid (Kb.out.below hb Kb.out.lt)
      replace Kr := Lib.hid (Kr.out.below hb Kr.out.lt)
      replace Kx := Lib.hid (Kx.out.below hb Kx.out.lt)
      replace B := Lib.hid (B.out.trans (hb.mono B.out.size))
      clear hb
      clear bbc0 bbc1 bbc2 brc0 brc1 brc2 brc3 bxc0 bxc1 bxc2 bxc3
      clear QO HP2
      obtain ⟨bbc0, bbc1, bbc2⟩ := three Kb.out
      obtain ⟨brc0, brc1, brc2, brc3⟩ := four Kr.out
      obtain ⟨bxc0, bxc1, bxc2, bxc3⟩ := four Kx.out
      have fzr := fun q => Kr.out.frozen q
      go_wp2
      have K9 := Lib.hid (Kr.out.setR (.int .i64 0) (.int .i64 0) (.slice none 0 0) (.int .i64 2))
      have B9 := ((((B.out.setCell (p := ⟨G + 1, 0, none⟩) (show w.heap.size ≤ G + 1 by have := HG.out; omega) (.int .i64 0)).setCell (p := ⟨G + 1, 1, none⟩) (show w.heap.size ≤ G + 1 by have := HG.out; omega) (.int .i64 0)).setCell (p := ⟨G + 1, 2, none⟩) (show w.heap.size ≤ G + 1 by have := HG.out; omega) (.slice none 0 0)).setCell (p := ⟨G + 1, 3, none⟩) (show w.heap.size ≤ G + 1 by have := HG.out; omega) (.int .i64 2))
      generalize hw2 : ((((w4.setCell ⟨G + 1, 0, none⟩ (.int .i64 0)).setCell ⟨G + 1, 1, none⟩ (.int .i64 0)).setCell ⟨G + 1, 2, none⟩ (.slice none 0 0)).setCell ⟨G + 1, 3, none⟩ (.int .i64 2)) = w9 at K9 B9 ⊢
      clear bbc0 bbc1 bbc2 brc0 brc1 brc2 brc3 bxc0 bxc1 bxc2 bxc3 fzr
      clear hw2
      obtain ⟨d0, d1, d2, d3⟩ := four K9.out
      refine bodyPost_ret (by simp [results, Try.results14, go_sem, d0, d1, d2, d3]; try rfl) rfl ?_
      exact ⟨rfl, B9⟩
    · have s2 : decide (1099511627776 < Q) = false := decide_eq_false l2
      have h9 : hh = false ∧ N = 10000 := by
        rcases h with q | q | q
        · exact absurd q l1
        · exact absurd q l2
        · exact ⟨q.1, by omega⟩
      obtain rfl : hh = false := h9.1
      have s3 : ((N : Int) == 10000) = true := by have := h9.2; simp; omega
      clear h l1 l2 hN h9
      clear ob ob2 bd hx3 hx4 hhh hO hp ok p1 p2 p3 hm
      go_enter Try.func14, Try.ntmps14
      obtain ⟨G, hG⟩ : ∃ G, w.heap.size = G := ⟨_, rfl⟩
      have HG := Lib.hid hG
      have Kb := Lib.hid (show Blk ((w.alloc (.cells #[.int .i64 cap, .int .i64 len, .slice a N c] 24)).alloc (.cells #[.int .i64 0, .int .i64 0, .slice none 0 0, .int .i64 0] 34)) (G) 24 #[.int .i64 cap, .int .i64 len, .slice a N c] from (Blk.new' _ _ _ _ hG rfl).alloc _)
      have Kr := Lib.hid (show Blk ((w.alloc (.cells #[.int .i64 cap, .int .i64 len, .slice a N c] 24)).alloc (.cells #[.int .i64 0, .int .i64 0, .slice none 0 0, .int .i64 0] 34)) (G + 1) 34 #[.int .i64 0, .int .i64 0, .slice none 0 0, .int .i64 0] from Blk.new' _ _ _ _ (by rw [World.size_alloc, hG]) rfl)
      have B := Lib.hid (show Below w.heap.size w ((w.alloc (.cells #[.int .i64 cap, .int .i64 len, .slice a N c] 24)).alloc (.cells #[.int .i64 0, .int .i64 0, .slice none 0 0, .int .i64 0] 34)) by (repeat' (first | (with_reducible exact Below.refl _ _) | (with_reducible assumption) | (with_reducible refine Below.alloc ?_ ?_ _) | (with_reducible refine Below.drew ?_) | (with_reducible refine below_dn ?_) | (with_reducible refine Below.setCell ?_ ?_ _) | (with_reducible exact Nat.le_refl _) | omega | (simp only [World.size_alloc, World.size_setCell, World.size_drew]; omega) | (simp; omega) | (simp; done))))
      go_upto_region 1 with (fail)
      try rw [hG]
      generalize hw0 : ((w.alloc (.cells #[.int .i64 cap, .int .i64 len, .slice a N c] 24)).alloc (.cells #[.int .i64 0, .int .i64 0, .slice none 0 0, .int .i64 0] 34)) = w0 at Kb Kr B ⊢
      clear hw0 hG
      obtain ⟨bbc0, bbc1, bbc2⟩ := three Kb.out
      obtain ⟨brc0, brc1, brc2, brc3⟩ := four Kr.out
      go_wp2_with fail
      refine (C.out _ (HP.out.mono B.out)).mono ?_
      rintro e w1 ⟨rfl, hb⟩
      replace Kb := Lib.hid (Kb.out.below hb Kb.out.lt)
      replace Kr := Lib.hid (Kr.out.below hb Kr.out.lt)
      replace B := Lib.hid (B.out.trans (hb.mono B.out.size))
      clear bbc0 bbc1 bbc2 brc0 brc1 brc2 brc3
      clear hb
      obtain ⟨bbc0, bbc1, bbc2⟩ := three Kb.out
      obtain ⟨brc0, brc1, brc2, brc3⟩ := four Kr.out
      go_wp2_with fail
      refine (C1.out _).mono ?_
      rintro e wz ⟨rfl, rfl⟩
      go_wp2_with fail
      refine (C2.out _).mono ?_
      rintro e wz ⟨rfl, rfl⟩
      go_wp2_with fail
      refine (RW.out _ (HP.out.mono B.out)).mono ?_
      rintro e w2 ⟨rfl, hb⟩
      replace Kb := Lib.hid (Kb.out.below hb Kb.out.lt)
      replace Kr := Lib.hid (Kr.out.below hb Kr.out.lt)
      replace B := Lib.hid (B.out.trans (hb.mono B.out.size))
      clear bbc0 bbc1 bbc2 brc0 brc1 brc2 brc3
      clear hb
      obtain ⟨bbc0, bbc1, bbc2⟩ := three Kb.out
      obtain ⟨brc0, brc1, brc2, brc3⟩ := four Kr.out
      obtain ⟨gx, hgx⟩ : ∃ G, w2.heap.size = G := ⟨_, rfl⟩
      have Kx := Lib.hid (show Blk (w2.alloc (.cells #[.int .i64 wi, .int .i64 ga, .int .i64 x3, .int .i64 x4] 72)) gx 72 #[.int .i64 wi, .int .i64 ga, .int .i64 x3, .int .i64 x4] from Blk.new' w2 _ _ _ hgx rfl)
      have Nbx := Lib.hid (show G < gx from by rw [← hgx]; exact Kb.out.lt)
      replace Kb := Lib.hid (Kb.out.alloc (.cells #[.int .i64 wi, .int .i64 ga, .int .i64 x3, .int .i64 x4] 72))
      have Nrx := Lib.hid (show G + 1 < gx from by rw [← hgx]; exact Kr.out.lt)
      replace Kr := Lib.hid (Kr.out.alloc (.cells #[.int .i64 wi, .int .i64 ga, .int .i64 x3, .int .i64 x4] 72))
      have Lx := Lib.hid (show w.heap.size ≤ gx from by rw [← hgx]; exact B.out.size)
      replace B := Lib.hid (B.out.alloc B.out.size (.cells #[.int .i64 wi, .int .i64 ga, .int .i64 x3, .int .i64 x4] 72))
      go_upto_region 4 with (fail)
      try rw [hgx]
      generalize hw : w2.alloc (.cells #[.int .i64 wi, .int .i64 ga, .int .i64 x3, .int .i64 x4] 72) = w3 at Kb Kr Kx  B ⊢
      clear bbc0 bbc1 bbc2 brc0 brc1 brc2 brc3
      clear hw hgx
      have HP2 := Lib.hid (HP.out.mono B.out)
      have QO := Lib.hid (fun (d : Nat) (os : Array Obj) => OU.out (grow (redrawn w3 d) os) (HP2.out.mono (below_regrown _ _ _)))
      obtain ⟨bbc0, bbc1, bbc2⟩ := three Kb.out
      obtain ⟨brc0, brc1, brc2, brc3⟩ := four Kr.out
      obtain ⟨bxc0, bxc1, bxc2, bxc3⟩ := four Kx.out
      have gc := grow_cell3
      have zzb := Kb.out.lt
      have zzr := Kr.out.lt
      have zzx := Kx.out.lt
      go_wp2_with fail
      refine wp_region_quiet_below (by kernel_rfl) (by kernel_rfl) ?_
      repeat (go_big_quiet_step (first | (with_reducible exact Calls.regrown_of (QO.out _ _))))
      refine wpQuiet_nil ?_
      intro w4 hw'
      obtain ⟨⟨dq, osq⟩, hw''⟩ := hw'
      have hb := below_of_grow3 hw''
      clear hw'' gc zzb zzr zzx
      replace Kb := Lib.hid (Kb.out.below hb Kb.out.lt)
      replace Kr := Lib.hid (Kr.out.below hb Kr.out.lt)
      replace Kx := Lib.hid (Kx.out.below hb Kx.out.lt)
      replace B := Lib.hid (B.out.trans (hb.mono B.out.size))
      clear hb
      clear bbc0 bbc1 bbc2 brc0 brc1 brc2 brc3 bxc0 bxc1 bxc2 bxc3
      clear QO HP2
      obtain ⟨bbc0, bbc1, bbc2⟩ := three Kb.out
      obtain ⟨brc0, brc1, brc2, brc3⟩ := four Kr.out
      obtain ⟨bxc0, bxc1, bxc2, bxc3⟩ := four Kx.out
      have fzr := fun q => Kr.out.frozen q
      go_wp2
      have K9 := Lib.hid (Kr.out.setR (.int .i64 0) (.int .i64 0) (.slice none 0 0) (.int .i64 2))
      have B9 := ((((B.out.setCell (p := ⟨G + 1, 0, none⟩) (show w.heap.size ≤ G + 1 by have := HG.out; omega) (.int .i64 0)).setCell (p := ⟨G + 1, 1, none⟩) (show w.heap.size ≤ G + 1 by have := HG.out; omega) (.int .i64 0)).setCell (p := ⟨G + 1, 2, none⟩) (show w.heap.size ≤ G + 1 by have := HG.out; omega) (.slice none 0 0)).setCell (p := ⟨G + 1, 3, none⟩) (show w.heap.size ≤ G + 1 by have := HG.out; omega) (.int .i64 2))
      generalize hw2 : ((((w4.setCell ⟨G + 1, 0, none⟩ (.int .i64 0)).setCell ⟨G + 1, 1, none⟩ (.int .i64 0)).setCell ⟨G + 1, 2, none⟩ (.slice none 0 0)).setCell ⟨G + 1, 3, none⟩ (.int .i64 2)) = w9 at K9 B9 ⊢
      clear bbc0 bbc1 bbc2 brc0 brc1 brc2 brc3 bxc0 bxc1 bxc2 bxc3 fzr
      clear hw2
      obtain ⟨d0, d1, d2, d3⟩ := four K9.out
      refine bodyPost_ret (by simp [results, Try.results14, go_sem, d0, d1, d2, d3]; try rfl) rfl ?_
      exact ⟨rfl, B9⟩
set_option maxRecDepth 100000 in
set_option maxHeartbeats 2000000 in
theorem dealref_ok (cap len : Int) (a : Option Addr) (c : Nat) (l : List Rw) (wi ga n : Int) (w : World) (hp : RwA w a l) (ok : OkB cap len l) (p1 : winOk wi) (p2 : gateOk ga) (p3 : 1 ≤ n ∧ n ≤ 1073741824) (h : ¬ (cap < outL l wi + n ∨ 1099511627776 < dealtL l wi ga + n ∨ (hasC (cR wi ga) l = false ∧ 10000 ≤ l.length))) :
    Calls Try.prog 14 #[.agg #[.int .i64 cap, .int .i64 len, .slice a l.length c], .int .i64 wi, .int .i64 ga, .int .i64 n] w fun e w' => (∃ a' c', e = .returned (.agg #[.int .i64 cap, .int .i64 len, .slice a' (dealL l wi ga n).length c', .int .i64 0]) ∧ RwA w' a' (dealL l wi ga n)) ∧ Below w.heap.size w w' := by
  have HP := Lib.hid hp
  have hm := ok.head.2.2
  have bd := dealt_bd ok wi ga
  have ob := outK_bd ok wi l.length (Nat.le_refl _)
  rw [show outK l wi l.length = outL l wi from rfl] at ob
  have C := Lib.hid (fun (X : World) (h : RwA X a l) => rvalid_yes ok a c X h)
  have C1 := Lib.hid (fun W => rwin_yes p1 W)
  have C2 := Lib.hid (fun W => rgate_yes p2 W)
  have OU := Lib.hid (fun (X : World) (h : RwA X a l) => outref_any cap len a c l wi X h ok)
  have t1 : decide (n < 1) = false := decide_eq_false (by omega)
  have t2 : decide (1073741824 < n) = false := decide_eq_false (by omega)
  have RW := Lib.hid (fun (X : World) (h : RwA X a l) => rowref_any cap len a c l wi ga X h ok.ord (by have := ok.head.2.2; omega))
  simp only [rowL_is] at RW
  obtain ⟨x3, hx3⟩ : ∃ z, dealtL l wi ga = z := ⟨_, rfl⟩
  obtain ⟨x4, hx4⟩ : ∃ z, backL l wi ga = z := ⟨_, rfl⟩
  obtain ⟨hh, hhh⟩ : ∃ z, hasC (cR wi ga) l = z := ⟨_, rfl⟩
  simp only [hx3, hx4, hhh, encR] at RW
  obtain ⟨N, hN⟩ : ∃ N, l.length = N := ⟨_, rfl⟩
  simp only [hN] at C OU RW
  obtain ⟨O, hO⟩ : ∃ z, outL l wi = z := ⟨_, rfl⟩
  rw [hO] at ob h
  simp only [hO] at OU
  rw [hx3] at bd h
  rw [hhh, hN] at h
  rw [hN] at hm ob
  have ob2 : 0 ≤ O ∧ O ≤ 10995116277760000 := by omega
  have wP : IntKind.i64.wrap (O + n) = O + n := by rw [IntKind.wrap_i64]; omega
  have wQ : IntKind.i64.wrap (x3 + n) = x3 + n := by rw [IntKind.wrap_i64]; omega
  obtain ⟨P, hP⟩ : ∃ z, O + n = z := ⟨_, rfl⟩
  obtain ⟨Q, hQ⟩ : ∃ z, x3 + n = z := ⟨_, rfl⟩
  rw [hP] at wP h
  rw [hQ] at wQ h
  have wP2 : IntKind.i64.wrap P = P := wP
  have wQ2 : IntKind.i64.wrap Q = Q := wQ
  have PU := Lib.hid (fun (X : World) (h : RwA X a l) => put_any cap len a c l (wi, ga, x3 + n, x4) X h ok.ord (by omega))
  simp only [encR] at PU
  rw [← hx3, ← hx4, put_deal, hx3, hx4] at PU
  rw [hN]
  obtain ⟨L, hL⟩ : ∃ z, dealL l wi ga n = z := ⟨_, rfl⟩
  obtain ⟨M, hM⟩ : ∃ M, L.length = M := ⟨_, rfl⟩
  simp only [hL, hN, hQ, hM] at PU
  rw [hL, hM]
  have l1 : ¬ cap < P := fun q => h (Or.inl q)
  have l2 : ¬ 1099511627776 < Q := fun q => h (Or.inr (Or.inl q))
  have s1 : decide (cap < P) = false := decide_eq_false l1
  have s2 : decide (1099511627776 < Q) = false := decide_eq_false l2
  by_cases e : hh = true
  · subst e
    clear h l1 l2 hL hM hN
    clear ob ob2 bd hx3 hx4 hhh hO hp ok p1 p2 p3 hm
    go_enter Try.func14, Try.ntmps14
    obtain ⟨G, hG⟩ : ∃ G, w.heap.size = G := ⟨_, rfl⟩
    have HG := Lib.hid hG
    have Kb := Lib.hid (show Blk ((w.alloc (.cells #[.int .i64 cap, .int .i64 len, .slice a N c] 24)).alloc (.cells #[.int .i64 0, .int .i64 0, .slice none 0 0, .int .i64 0] 34)) (G) 24 #[.int .i64 cap, .int .i64 len, .slice a N c] from (Blk.new' _ _ _ _ hG rfl).alloc _)
    have Kr := Lib.hid (show Blk ((w.alloc (.cells #[.int .i64 cap, .int .i64 len, .slice a N c] 24)).alloc (.cells #[.int .i64 0, .int .i64 0, .slice none 0 0, .int .i64 0] 34)) (G + 1) 34 #[.int .i64 0, .int .i64 0, .slice none 0 0, .int .i64 0] from Blk.new' _ _ _ _ (by rw [World.size_alloc, hG]) rfl)
    have B := Lib.hid (show Below w.heap.size w ((w.alloc (.cells #[.int .i64 cap, .int .i64 len, .slice a N c] 24)).alloc (.cells #[.int .i64 0, .int .i64 0, .slice none 0 0, .int .i64 0] 34)) by (repeat' (first | (with_reducible exact Below.refl _ _) | (with_reducible assumption) | (with_reducible refine Below.alloc ?_ ?_ _) | (with_reducible refine Below.drew ?_) | (with_reducible refine below_dn ?_) | (with_reducible refine Below.setCell ?_ ?_ _) | (with_reducible exact Nat.le_refl _) | omega | (simp only [World.size_alloc, World.size_setCell, World.size_drew]; omega) | (simp; omega) | (simp; done))))
    go_upto_region 1 with (fail)
    try rw [hG]
    generalize hw0 : ((w.alloc (.cells #[.int .i64 cap, .int .i64 len, .slice a N c] 24)).alloc (.cells #[.int .i64 0, .int .i64 0, .slice none 0 0, .int .i64 0] 34)) = w0 at Kb Kr B ⊢
    clear hw0 hG
    obtain ⟨bbc0, bbc1, bbc2⟩ := three Kb.out
    obtain ⟨brc0, brc1, brc2, brc3⟩ := four Kr.out
    go_wp2_with fail
    refine (C.out _ (HP.out.mono B.out)).mono ?_
    rintro e w1 ⟨rfl, hb⟩
    replace Kb := Lib.hid (Kb.out.below hb Kb.out.lt)
    replace Kr := Lib.hid (Kr.out.below hb Kr.out.lt)
    replace B := Lib.hid (B.out.trans (hb.mono B.out.size))
    clear bbc0 bbc1 bbc2 brc0 brc1 brc2 brc3
    clear hb
    obtain ⟨bbc0, bbc1, bbc2⟩ := three Kb.out
    obtain ⟨brc0, brc1, brc2, brc3⟩ := four Kr.out
    go_wp2_with fail
    refine (C1.out _).mono ?_
    rintro e wz ⟨rfl, rfl⟩
    go_wp2_with fail
    refine (C2.out _).mono ?_
    rintro e wz ⟨rfl, rfl⟩
    go_wp2_with fail
    refine (RW.out _ (HP.out.mono B.out)).mono ?_
    rintro e w2 ⟨rfl, hb⟩
    replace Kb := Lib.hid (Kb.out.below hb Kb.out.lt)
    replace Kr := Lib.hid (Kr.out.below hb Kr.out.lt)
    replace B := Lib.hid (B.out.trans (hb.mono B.out.size))
    clear bbc0 bbc1 bbc2 brc0 brc1 brc2 brc3
    clear hb
    obtain ⟨bbc0, bbc1, bbc2⟩ := three Kb.out
    obtain ⟨brc0, brc1, brc2, brc3⟩ := four Kr.out
    obtain ⟨gx, hgx⟩ : ∃ G, w2.heap.size = G := ⟨_, rfl⟩
    have Kx := Lib.hid (show Blk (w2.alloc (.cells #[.int .i64 wi, .int .i64 ga, .int .i64 x3, .int .i64 x4] 72)) gx 72 #[.int .i64 wi, .int .i64 ga, .int .i64 x3, .int .i64 x4] from Blk.new' w2 _ _ _ hgx rfl)
    have Nbx := Lib.hid (show G < gx from by rw [← hgx]; exact Kb.out.lt)
    replace Kb := Lib.hid (Kb.out.alloc (.cells #[.int .i64 wi, .int .i64 ga, .int .i64 x3, .int .i64 x4] 72))
    have Nrx := Lib.hid (show G + 1 < gx from by rw [← hgx]; exact Kr.out.lt)
    replace Kr := Lib.hid (Kr.out.alloc (.cells #[.int .i64 wi, .int .i64 ga, .int .i64 x3, .int .i64 x4] 72))
    have Lx := Lib.hid (show w.heap.size ≤ gx from by rw [← hgx]; exact B.out.size)
    replace B := Lib.hid (B.out.alloc B.out.size (.cells #[.int .i64 wi, .int .i64 ga, .int .i64 x3, .int .i64 x4] 72))
    go_upto_region 4 with (fail)
    try rw [hgx]
    generalize hw : w2.alloc (.cells #[.int .i64 wi, .int .i64 ga, .int .i64 x3, .int .i64 x4] 72) = w3 at Kb Kr Kx  B ⊢
    clear bbc0 bbc1 bbc2 brc0 brc1 brc2 brc3
    clear hw hgx
    have HP2 := Lib.hid (HP.out.mono B.out)
    have QO := Lib.hid (fun (d : Nat) (os : Array Obj) => OU.out (grow (redrawn w3 d) os) (HP2.out.mono (below_regrown _ _ _)))
    obtain ⟨bbc0, bbc1, bbc2⟩ := three Kb.out
    obtain ⟨brc0, brc1, brc2, brc3⟩ := four Kr.out
    obtain ⟨bxc0, bxc1, bxc2, bxc3⟩ := four Kx.out
    have gc := grow_cell3
    have zzb := Kb.out.lt
    have zzr := Kr.out.lt
    have zzx := Kx.out.lt
    go_wp2_with fail
    refine wp_region_quiet_below (by kernel_rfl) (by kernel_rfl) ?_
    repeat (go_big_quiet_step (first | (with_reducible exact Calls.regrown_of (QO.out _ _))))
    refine wpQuiet_nil ?_
    intro w4 hw'
    obtain ⟨⟨dq, osq⟩, hw''⟩ := hw'
    have hb := below_of_grow3 hw''
    clear hw'' gc zzb zzr zzx
    replace Kb := Lib.hid (Kb.out.below hb Kb.out.lt)
    replace Kr := Lib.hid (Kr.out.below hb Kr.out.lt)
    replace Kx := Lib.hid (Kx.out.below hb Kx.out.lt)
    replace B := Lib.hid (B.out.trans (hb.mono B.out.size))
    clear hb
    clear bbc0 bbc1 bbc2 brc0 brc1 brc2 brc3 bxc0 bxc1 bxc2 bxc3
    clear QO HP2
    obtain ⟨bbc0, bbc1, bbc2⟩ := three Kb.out
    obtain ⟨brc0, brc1, brc2, brc3⟩ := four Kr.out
    obtain ⟨bxc0, bxc1, bxc2, bxc3⟩ := four Kx.out
    clear bbc0 bbc1 bbc2 brc0 brc1 brc2 brc3 bxc0 bxc1 bxc2 bxc3
    obtain ⟨bbc0, bbc1, bbc2⟩ := three Kb.out
    obtain ⟨brc0, brc1, brc2, brc3⟩ := four Kr.out
    obtain ⟨bxc0, bxc1, bxc2, bxc3⟩ := four Kx.out
    have fzx := fun q => Kx.out.frozen q
    replace Kx := Lib.hid (show Blk (w4.setCell ⟨gx, 2, none⟩ (.int .i64 Q)) (gx) 72 #[.int .i64 wi, .int .i64 ga, .int .i64 Q, .int .i64 x4] from Kx.out.set_ 2 _)
    replace Kb := Lib.hid (show Blk (w4.setCell ⟨gx, 2, none⟩ (.int .i64 Q)) (G) _ _ from Kb.out.far (p := ⟨gx, 2, none⟩) (by have := Nbx.out; show G ≠ gx; omega) (.int .i64 Q))
    replace Kr := Lib.hid (show Blk (w4.setCell ⟨gx, 2, none⟩ (.int .i64 Q)) (G + 1) _ _ from Kr.out.far (p := ⟨gx, 2, none⟩) (by have := Nrx.out; show G + 1 ≠ gx; omega) (.int .i64 Q))
    replace B := Lib.hid (show Below w.heap.size w (w4.setCell ⟨gx, 2, none⟩ (.int .i64 Q)) from B.out.setCell (p := ⟨gx, 2, none⟩) Lx.out (.int .i64 Q))
    go_upto_region 7 with (fail)
    generalize hw : (w4.setCell ⟨gx, 2, none⟩ (.int .i64 Q)) = w5 at Kb Kr Kx B ⊢
    clear bbc0 bbc1 bbc2 brc0 brc1 brc2 brc3 bxc0 bxc1 bxc2 bxc3 fzx
    clear hw
    obtain ⟨bbc0, bbc1, bbc2⟩ := three Kb.out
    obtain ⟨brc0, brc1, brc2, brc3⟩ := four Kr.out
    obtain ⟨bxc0, bxc1, bxc2, bxc3⟩ := four Kx.out
    have Qr := Lib.hid Kr.out.lt
    go_wp2_with fail
    refine (PU.out _ (HP.out.mono B.out)).mono ?_
    rintro e w6 ⟨⟨ap, cp, rfl, hr, hf⟩, hb⟩
    have Zp := Lib.hid hr
    have Fp := Lib.hid hf
    replace Kb := Lib.hid (Kb.out.below hb Kb.out.lt)
    replace Kr := Lib.hid (Kr.out.below hb Kr.out.lt)
    replace Kx := Lib.hid (Kx.out.below hb Kx.out.lt)
    replace B := Lib.hid (B.out.trans (hb.mono B.out.size))
    clear bbc0 bbc1 bbc2 brc0 brc1 brc2 brc3 bxc0 bxc1 bxc2 bxc3
    clear hb hr hf
    obtain ⟨bbc0, bbc1, bbc2⟩ := three Kb.out
    obtain ⟨brc0, brc1, brc2, brc3⟩ := four Kr.out
    obtain ⟨bxc0, bxc1, bxc2, bxc3⟩ := four Kx.out
    have Rp := Zp
    clear Zp
    have Epr := Lib.hid (show ∀ p, ap = some p → p.block ≠ G + 1 from fun p hp => by have h1 := Fp.out p hp; have h2 := Qr.out; omega)
    clear Fp Qr
    clear bbc0 bbc1 bbc2 brc0 brc1 brc2 brc3 bxc0 bxc1 bxc2 bxc3
    obtain ⟨bbc0, bbc1, bbc2⟩ := three Kb.out
    obtain ⟨brc0, brc1, brc2, brc3⟩ := four Kr.out
    obtain ⟨bxc0, bxc1, bxc2, bxc3⟩ := four Kx.out
    have fzr := fun q => Kr.out.frozen q
    go_wp2
    have K9 := Lib.hid (Kr.out.setR (.int .i64 cap) (.int .i64 len) (.slice ap M cp) (.int .i64 0))
    have B9 := ((((B.out.setCell (p := ⟨G + 1, 0, none⟩) (show w.heap.size ≤ G + 1 by have := HG.out; omega) (.int .i64 cap)).setCell (p := ⟨G + 1, 1, none⟩) (show w.heap.size ≤ G + 1 by have := HG.out; omega) (.int .i64 len)).setCell (p := ⟨G + 1, 2, none⟩) (show w.heap.size ≤ G + 1 by have := HG.out; omega) (.slice ap M cp)).setCell (p := ⟨G + 1, 3, none⟩) (show w.heap.size ≤ G + 1 by have := HG.out; omega) (.int .i64 0))
    have Sp := (RowsA.far (RowsA.far (RowsA.far (RowsA.far Rp.out (p := ⟨G + 1, 0, none⟩) (Epr.out) (.int .i64 cap)) (p := ⟨G + 1, 1, none⟩) (Epr.out) (.int .i64 len)) (p := ⟨G + 1, 2, none⟩) (Epr.out) (.slice ap M cp)) (p := ⟨G + 1, 3, none⟩) (Epr.out) (.int .i64 0))
    generalize hw2 : ((((w6.setCell ⟨G + 1, 0, none⟩ (.int .i64 cap)).setCell ⟨G + 1, 1, none⟩ (.int .i64 len)).setCell ⟨G + 1, 2, none⟩ (.slice ap M cp)).setCell ⟨G + 1, 3, none⟩ (.int .i64 0)) = w9 at K9 B9 Sp ⊢
    clear bbc0 bbc1 bbc2 brc0 brc1 brc2 brc3 bxc0 bxc1 bxc2 bxc3 fzr
    clear hw2
    obtain ⟨d0, d1, d2, d3⟩ := four K9.out
    refine bodyPost_ret (by simp [results, Try.results14, go_sem, d0, d1, d2, d3]; try rfl) rfl ?_
    exact ⟨⟨ap, cp, rfl, Sp⟩, B9⟩
  · have e2 : hh = false := by simpa using e
    subst e2
    have s3 : ((N : Int) == 10000) = false := by have h10 : ¬ 10000 ≤ N := fun q => h (Or.inr (Or.inr ⟨rfl, q⟩)); simp; omega
    clear h l1 l2 hL hM e hN
    clear ob ob2 bd hx3 hx4 hhh hO hp ok p1 p2 p3 hm
    go_enter Try.func14, Try.ntmps14
    obtain ⟨G, hG⟩ : ∃ G, w.heap.size = G := ⟨_, rfl⟩
    have HG := Lib.hid hG
    have Kb := Lib.hid (show Blk ((w.alloc (.cells #[.int .i64 cap, .int .i64 len, .slice a N c] 24)).alloc (.cells #[.int .i64 0, .int .i64 0, .slice none 0 0, .int .i64 0] 34)) (G) 24 #[.int .i64 cap, .int .i64 len, .slice a N c] from (Blk.new' _ _ _ _ hG rfl).alloc _)
    have Kr := Lib.hid (show Blk ((w.alloc (.cells #[.int .i64 cap, .int .i64 len, .slice a N c] 24)).alloc (.cells #[.int .i64 0, .int .i64 0, .slice none 0 0, .int .i64 0] 34)) (G + 1) 34 #[.int .i64 0, .int .i64 0, .slice none 0 0, .int .i64 0] from Blk.new' _ _ _ _ (by rw [World.size_alloc, hG]) rfl)
    have B := Lib.hid (show Below w.heap.size w ((w.alloc (.cells #[.int .i64 cap, .int .i64 len, .slice a N c] 24)).alloc (.cells #[.int .i64 0, .int .i64 0, .slice none 0 0, .int .i64 0] 34)) by (repeat' (first | (with_reducible exact Below.refl _ _) | (with_reducible assumption) | (with_reducible refine Below.alloc ?_ ?_ _) | (with_reducible refine Below.drew ?_) | (with_reducible refine below_dn ?_) | (with_reducible refine Below.setCell ?_ ?_ _) | (with_reducible exact Nat.le_refl _) | omega | (simp only [World.size_alloc, World.size_setCell, World.size_drew]; omega) | (simp; omega) | (simp; done))))
    go_upto_region 1 with (fail)
    try rw [hG]
    generalize hw0 : ((w.alloc (.cells #[.int .i64 cap, .int .i64 len, .slice a N c] 24)).alloc (.cells #[.int .i64 0, .int .i64 0, .slice none 0 0, .int .i64 0] 34)) = w0 at Kb Kr B ⊢
    clear hw0 hG
    obtain ⟨bbc0, bbc1, bbc2⟩ := three Kb.out
    obtain ⟨brc0, brc1, brc2, brc3⟩ := four Kr.out
    go_wp2_with fail
    refine (C.out _ (HP.out.mono B.out)).mono ?_
    rintro e w1 ⟨rfl, hb⟩
    replace Kb := Lib.hid (Kb.out.below hb Kb.out.lt)
    replace Kr := Lib.hid (Kr.out.below hb Kr.out.lt)
    replace B := Lib.hid (B.out.trans (hb.mono B.out.size))
    clear bbc0 bbc1 bbc2 brc0 brc1 brc2 brc3
    clear hb
    obtain ⟨bbc0, bbc1, bbc2⟩ := three Kb.out
    obtain ⟨brc0, brc1, brc2, brc3⟩ := four Kr.out
    go_wp2_with fail
    refine (C1.out _).mono ?_
    rintro e wz ⟨rfl, rfl⟩
    go_wp2_with fail
    refine (C2.out _).mono ?_
    rintro e wz ⟨rfl, rfl⟩
    go_wp2_with fail
    refine (RW.out _ (HP.out.mono B.out)).mono ?_
    rintro e w2 ⟨rfl, hb⟩
    replace Kb := Lib.hid (Kb.out.below hb Kb.out.lt)
    replace Kr := Lib.hid (Kr.out.below hb Kr.out.lt)
    replace B := Lib.hid (B.out.trans (hb.mono B.out.size))
    clear bbc0 bbc1 bbc2 brc0 brc1 brc2 brc3
    clear hb
    obtain ⟨bbc0, bbc1, bbc2⟩ := three Kb.out
    obtain ⟨brc0, brc1, brc2, brc3⟩ := four Kr.out
    obtain ⟨gx, hgx⟩ : ∃ G, w2.heap.size = G := ⟨_, rfl⟩
    have Kx := Lib.hid (show Blk (w2.alloc (.cells #[.int .i64 wi, .int .i64 ga, .int .i64 x3, .int .i64 x4] 72)) gx 72 #[.int .i64 wi, .int .i64 ga, .int .i64 x3, .int .i64 x4] from Blk.new' w2 _ _ _ hgx rfl)
    have Nbx := Lib.hid (show G < gx from by rw [← hgx]; exact Kb.out.lt)
    replace Kb := Lib.hid (Kb.out.alloc (.cells #[.int .i64 wi, .int .i64 ga, .int .i64 x3, .int .i64 x4] 72))
    have Nrx := Lib.hid (show G + 1 < gx from by rw [← hgx]; exact Kr.out.lt)
    replace Kr := Lib.hid (Kr.out.alloc (.cells #[.int .i64 wi, .int .i64 ga, .int .i64 x3, .int .i64 x4] 72))
    have Lx := Lib.hid (show w.heap.size ≤ gx from by rw [← hgx]; exact B.out.size)
    replace B := Lib.hid (B.out.alloc B.out.size (.cells #[.int .i64 wi, .int .i64 ga, .int .i64 x3, .int .i64 x4] 72))
    go_upto_region 4 with (fail)
    try rw [hgx]
    generalize hw : w2.alloc (.cells #[.int .i64 wi, .int .i64 ga, .int .i64 x3, .int .i64 x4] 72) = w3 at Kb Kr Kx  B ⊢
    clear bbc0 bbc1 bbc2 brc0 brc1 brc2 brc3
    clear hw hgx
    have HP2 := Lib.hid (HP.out.mono B.out)
    have QO := Lib.hid (fun (d : Nat) (os : Array Obj) => OU.out (grow (redrawn w3 d) os) (HP2.out.mono (below_regrown _ _ _)))
    obtain ⟨bbc0, bbc1, bbc2⟩ := three Kb.out
    obtain ⟨brc0, brc1, brc2, brc3⟩ := four Kr.out
    obtain ⟨bxc0, bxc1, bxc2, bxc3⟩ := four Kx.out
    have gc := grow_cell3
    have zzb := Kb.out.lt
    have zzr := Kr.out.lt
    have zzx := Kx.out.lt
    go_wp2_with fail
    refine wp_region_quiet_below (by kernel_rfl) (by kernel_rfl) ?_
    repeat (go_big_quiet_step (first | (with_reducible exact Calls.regrown_of (QO.out _ _))))
    refine wpQuiet_nil ?_
    intro w4 hw'
    obtain ⟨⟨dq, osq⟩, hw''⟩ := hw'
    have hb := below_of_grow3 hw''
    clear hw'' gc zzb zzr zzx
    replace Kb := Lib.hid (Kb.out.below hb Kb.out.lt)
    replace Kr := Lib.hid (Kr.out.below hb Kr.out.lt)
    replace Kx := Lib.hid (Kx.out.below hb Kx.out.lt)
    replace B := Lib.hid (B.out.trans (hb.mono B.out.size))
    clear hb
    clear bbc0 bbc1 bbc2 brc0 brc1 brc2 brc3 bxc0 bxc1 bxc2 bxc3
    clear QO HP2
    obtain ⟨bbc0, bbc1, bbc2⟩ := three Kb.out
    obtain ⟨brc0, brc1, brc2, brc3⟩ := four Kr.out
    obtain ⟨bxc0, bxc1, bxc2, bxc3⟩ := four Kx.out
    clear bbc0 bbc1 bbc2 brc0 brc1 brc2 brc3 bxc0 bxc1 bxc2 bxc3
    obtain ⟨bbc0, bbc1, bbc2⟩ := three Kb.out
    obtain ⟨brc0, brc1, brc2, brc3⟩ := four Kr.out
    obtain ⟨bxc0, bxc1, bxc2, bxc3⟩ := four Kx.out
    have fzx := fun q => Kx.out.frozen q
    replace Kx := Lib.hid (show Blk (w4.setCell ⟨gx, 2, none⟩ (.int .i64 Q)) (gx) 72 #[.int .i64 wi, .int .i64 ga, .int .i64 Q, .int .i64 x4] from Kx.out.set_ 2 _)
    replace Kb := Lib.hid (show Blk (w4.setCell ⟨gx, 2, none⟩ (.int .i64 Q)) (G) _ _ from Kb.out.far (p := ⟨gx, 2, none⟩) (by have := Nbx.out; show G ≠ gx; omega) (.int .i64 Q))
    replace Kr := Lib.hid (show Blk (w4.setCell ⟨gx, 2, none⟩ (.int .i64 Q)) (G + 1) _ _ from Kr.out.far (p := ⟨gx, 2, none⟩) (by have := Nrx.out; show G + 1 ≠ gx; omega) (.int .i64 Q))
    replace B := Lib.hid (show Below w.heap.size w (w4.setCell ⟨gx, 2, none⟩ (.int .i64 Q)) from B.out.setCell (p := ⟨gx, 2, none⟩) Lx.out (.int .i64 Q))
    go_upto_region 7 with (fail)
    generalize hw : (w4.setCell ⟨gx, 2, none⟩ (.int .i64 Q)) = w5 at Kb Kr Kx B ⊢
    clear bbc0 bbc1 bbc2 brc0 brc1 brc2 brc3 bxc0 bxc1 bxc2 bxc3 fzx
    clear hw
    obtain ⟨bbc0, bbc1, bbc2⟩ := three Kb.out
    obtain ⟨brc0, brc1, brc2, brc3⟩ := four Kr.out
    obtain ⟨bxc0, bxc1, bxc2, bxc3⟩ := four Kx.out
    have Qr := Lib.hid Kr.out.lt
    go_wp2_with fail
    refine (PU.out _ (HP.out.mono B.out)).mono ?_
    rintro e w6 ⟨⟨ap, cp, rfl, hr, hf⟩, hb⟩
    have Zp := Lib.hid hr
    have Fp := Lib.hid hf
    replace Kb := Lib.hid (Kb.out.below hb Kb.out.lt)
    replace Kr := Lib.hid (Kr.out.below hb Kr.out.lt)
    replace Kx := Lib.hid (Kx.out.below hb Kx.out.lt)
    replace B := Lib.hid (B.out.trans (hb.mono B.out.size))
    clear bbc0 bbc1 bbc2 brc0 brc1 brc2 brc3 bxc0 bxc1 bxc2 bxc3
    clear hb hr hf
    obtain ⟨bbc0, bbc1, bbc2⟩ := three Kb.out
    obtain ⟨brc0, brc1, brc2, brc3⟩ := four Kr.out
    obtain ⟨bxc0, bxc1, bxc2, bxc3⟩ := four Kx.out
    have Rp := Zp
    clear Zp
    have Epr := Lib.hid (show ∀ p, ap = some p → p.block ≠ G + 1 from fun p hp => by have h1 := Fp.out p hp; have h2 := Qr.out; omega)
    clear Fp Qr
    clear bbc0 bbc1 bbc2 brc0 brc1 brc2 brc3 bxc0 bxc1 bxc2 bxc3
    obtain ⟨bbc0, bbc1, bbc2⟩ := three Kb.out
    obtain ⟨brc0, brc1, brc2, brc3⟩ := four Kr.out
    obtain ⟨bxc0, bxc1, bxc2, bxc3⟩ := four Kx.out
    have fzr := fun q => Kr.out.frozen q
    go_wp2
    have K9 := Lib.hid (Kr.out.setR (.int .i64 cap) (.int .i64 len) (.slice ap M cp) (.int .i64 0))
    have B9 := ((((B.out.setCell (p := ⟨G + 1, 0, none⟩) (show w.heap.size ≤ G + 1 by have := HG.out; omega) (.int .i64 cap)).setCell (p := ⟨G + 1, 1, none⟩) (show w.heap.size ≤ G + 1 by have := HG.out; omega) (.int .i64 len)).setCell (p := ⟨G + 1, 2, none⟩) (show w.heap.size ≤ G + 1 by have := HG.out; omega) (.slice ap M cp)).setCell (p := ⟨G + 1, 3, none⟩) (show w.heap.size ≤ G + 1 by have := HG.out; omega) (.int .i64 0))
    have Sp := (RowsA.far (RowsA.far (RowsA.far (RowsA.far Rp.out (p := ⟨G + 1, 0, none⟩) (Epr.out) (.int .i64 cap)) (p := ⟨G + 1, 1, none⟩) (Epr.out) (.int .i64 len)) (p := ⟨G + 1, 2, none⟩) (Epr.out) (.slice ap M cp)) (p := ⟨G + 1, 3, none⟩) (Epr.out) (.int .i64 0))
    generalize hw2 : ((((w6.setCell ⟨G + 1, 0, none⟩ (.int .i64 cap)).setCell ⟨G + 1, 1, none⟩ (.int .i64 len)).setCell ⟨G + 1, 2, none⟩ (.slice ap M cp)).setCell ⟨G + 1, 3, none⟩ (.int .i64 0)) = w9 at K9 B9 Sp ⊢
    clear bbc0 bbc1 bbc2 brc0 brc1 brc2 brc3 bxc0 bxc1 bxc2 bxc3 fzr
    clear hw2
    obtain ⟨d0, d1, d2, d3⟩ := four K9.out
    refine bodyPost_ret (by simp [results, Try.results14, go_sem, d0, d1, d2, d3]; try rfl) rfl ?_
    exact ⟨⟨ap, cp, rfl, Sp⟩, B9⟩
end Go.Proofs.Ytcgdhankllphgaa
