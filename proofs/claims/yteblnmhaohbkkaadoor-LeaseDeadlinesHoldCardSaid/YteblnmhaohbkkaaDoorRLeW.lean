import Derived.Test.YteblnmhaohbkkaaDoorRLeP
import Derived.Test.YteblnmhaohbkkaaDoorRLeJ
import Derived.Deep.Cut
import Derived.Laws.OwnMore
namespace Go.Proofs.YteblnmhaohbkkaaDoor
set_option linter.unusedVariables false
set_option linter.unusedSimpArgs false
set_option linter.unusedSectionVars false
namespace Le
open Go.RowKit
theorem flat_set : ∀ (l : List Gr) (i j : Nat) (u : Value) (x : Gr), i < l.length → j < 3 → encG x = (encG (l.getD i g0)).set j u → (l.flatMap encG).set (i * 3 + j) u = (l.set i x).flatMap encG
  | [], i, j, u, x, h, _, _ => absurd h (by simp)
  | a :: l, 0, j, u, x, _, hj, h => by
    simp only [List.flatMap_cons, List.set_cons_zero, List.getD_cons_zero] at h ⊢
    rw [Nat.zero_mul, Nat.zero_add, List.set_append_left _ _ (by rw [encG_len]; exact hj), h]
  | a :: l, i + 1, j, u, x, hi, hj, h => by
    simp only [List.flatMap_cons, List.set_cons_succ, List.getD_cons_succ] at h ⊢
    rw [List.set_append_right _ _ (by rw [encG_len]; omega), encG_len, show (i + 1) * 3 + j - 3 = i * 3 + j by omega, flat_set l i j u x (by simpa using hi) hj h]
theorem getD_set (l : List Gr) (i : Nat) (x : Gr) (h : i < l.length) : (l.set i x).getD i g0 = x := by rw [List.getD_eq_getElem?_getD, List.getElem?_set_self h]; rfl
section
variable {W : World} {B n cap : Nat} {a : Option Addr} {l : List Gr}
theorem own_at (h : OwnA W B (.slice a n cap) l) {i : Nat} (hi : i < l.length) :
    ∃ g, a = some ⟨g, 0, none⟩ ∧ n = l.length ∧ B ≤ g ∧ W.cell? ⟨g, i * 3, none⟩ = some (.int .i64 (l.getD i g0).1) ∧ W.cell? ⟨g, i * 3 + 1, none⟩ = some (.int .i64 (l.getD i g0).2.1) ∧ W.cell? ⟨g, i * 3 + 2, none⟩ = some (.int .i64 (l.getD i g0).2.2) ∧ ∀ j, W.frozen? ⟨g, j, none⟩ = false := by
  rcases h.2 with ⟨-, h1⟩ | ⟨g, cap', cur, e', hB, hg, -⟩
  · rw [h1] at hi; simp at hi
  · injection e' with e1 e2 e3
    subst e1; subst e2; subst e3
    have hx : l[i]? = some (l.getD i g0) := getD_some hi
    have q : ∀ j, j < 3 → W.cell? ⟨g, i * 3 + j, none⟩ = (encG (l.getD i g0))[j]? := fun j hj => by
      rw [World.ownsRow.cellAt h (i * 3 + j) (by omega), flat_at encG_len l i j hj, hx]; rfl
    exact ⟨g, rfl, rfl, hB, q 0 (by decide), q 1 (by decide), q 2 (by decide), fun j => h.frozenAt j⟩
theorem own_set {g : Nat} (h : OwnA W B (.slice (some ⟨g, 0, none⟩) n cap) l) {i j : Nat} (hi : i < l.length) (hj : j < 3) (u : Value) (x : Gr) (hx : encG x = (encG (l.getD i g0)).set j u) :
    OwnA (W.setCell ⟨g, i * 3 + j, none⟩ u) B (.slice (some ⟨g, 0, none⟩) n cap) (l.set i x) := by
  have hn : n = l.length := by
    rcases h.2 with ⟨h', _⟩ | ⟨g', cap', cur, h', _⟩
    · simp at h'
    · injection h'
  subst hn
  have := (World.ownsRow.stored h (i * 3 + j) u).1
  unfold OwnA OwnR
  rw [← flat_set l i j u x hi hj hx, List.length_set]
  exact this
theorem own_rows {k : Nat} (h : OwnA W B (.slice a k cap) l) : GrA W a l := by
  obtain ⟨av, cv, ev, -, hv⟩ := OwnR.view encG_len h
  injection ev with ev1
  subst ev1
  exact hv
end
set_option maxRecDepth 100000 in
set_option maxHeartbeats 2000000 in
theorem grantOf_yes (la mo : Int) (a : Option Addr) (c : Nat) (l : List Gr) (n : Int) (w : World) (hp : GrA w a l) (ord : OrdG l) (hm : l.length ≤ 1000000) (hh : hasG n l = true) :
    Calls Tryd.prog 36 #[.agg #[.int .i64 la, .int .i64 mo, .slice a l.length c], .int .i64 n] w fun e w' => e = .returned (.agg (encG (rowL n l)).toArray) ∧ Below w.heap.size w w' := by
  have HP := Lib.hid hp
  have R := Lib.hid (fun (X : World) (h : GrA X a l) => place_any la mo a c l n X h ord hm)
  have HI := Lib.hid (has_yes (n := n) (l := l))
  have HR := Lib.hid (show rowL n l = if hasG n l = true then l.getD (posG n l) g0 else (n, 0, 0) from rfl)
  rw [hh] at R HR
  obtain ⟨i, hi⟩ : ∃ i, posG n l = i := ⟨_, rfl⟩
  rw [hi] at R HR HI
  have HI := Lib.hid (HI.out hh).1
  obtain ⟨N, hN⟩ : ∃ N, l.length = N := ⟨_, rfl⟩
  have HE := Lib.hid hN
  simp only [hN] at R HI
  rw [hN] at hm ⊢
  clear hp hN ord hh hm hi
  go_enter Tryd.func36, Tryd.ntmps36
  obtain ⟨G, hG⟩ : ∃ G, w.heap.size = G := ⟨_, rfl⟩
  have HG := Lib.hid hG
  obtain ⟨w0, hw0, Kg, Kr, B⟩ : ∃ X, ((w.alloc (.cells #[.int .i64 la, .int .i64 mo, .slice a N c] 24)).alloc (.cells #[.int .i64 0, .int .i64 0, .int .i64 0] 88)) = X ∧ Hid (Blk X (G) 24 #[.int .i64 la, .int .i64 mo, .slice a N c]) ∧ Hid (Blk X (G + 1) 88 #[.int .i64 0, .int .i64 0, .int .i64 0]) ∧ Hid (Below w.heap.size w X) := ⟨_, rfl, Lib.hid ((Blk.new' _ _ _ _ hG rfl).alloc _), Lib.hid (Blk.new' _ _ _ _ (by rw [World.size_alloc, hG]) rfl), Lib.hid (by (repeat' (first | (with_reducible exact Below.refl _ _) | (with_reducible assumption) | (with_reducible refine Below.alloc ?_ ?_ _) | (with_reducible refine Below.drew ?_) | (with_reducible refine below_dn ?_) | (with_reducible refine Below.setCell ?_ ?_ _) | (with_reducible exact Nat.le_refl _) | omega | (simp only [World.size_alloc, World.size_setCell, World.size_drew]; omega) | (simp; omega) | (simp; done))))⟩
  go_upto_region 1 with (fail)
  try rw [hG]
  try rw [hw0]
  clear hw0 hG
  obtain ⟨bgc0, bgc1, bgc2⟩ := three Kg.out
  obtain ⟨brc0, brc1, brc2⟩ := three Kr.out
  have fzr := fun q => Kr.out.frozen q
  go_wp2_with fail
  refine (R.out _ (HP.out.mono B.out)).mono ?_
  rintro e w1 ⟨rfl, hb⟩
  replace Kg := Lib.hid (Kg.out.below hb Kg.out.lt)
  replace Kr := Lib.hid (Kr.out.below hb Kr.out.lt)
  replace B := Lib.hid (B.out.trans (hb.mono B.out.size))
  clear bgc0 bgc1 bgc2 brc0 brc1 brc2 fzr
  clear hb
  obtain ⟨bgc0, bgc1, bgc2⟩ := three Kg.out
  obtain ⟨brc0, brc1, brc2⟩ := three Kr.out
  obtain ⟨b, off, rfl, q0, q1, q2⟩ := at_ (HP.out.mono B.out) (k := i) (by rw [HE.out]; exact HI.out)
  replace HR := Lib.hid (show rowL n l = l.getD i g0 by rw [HR.out, if_pos (by first | rfl | trivial)])
  obtain ⟨x, hx⟩ : ∃ y, l.getD i g0 = y := ⟨_, rfl⟩
  rw [hx] at HR q0 q1 q2
  obtain ⟨x1, x2, x3⟩ := x
  simp only at q0 q1 q2
  have i0 : (0 : Int) ≤ (i : Int) := by omega
  have iN : (i : Int) < (N : Int) := by have := HI.out; omega
  clear hx R
  clear bgc0 bgc1 bgc2 brc0 brc1 brc2
  obtain ⟨bgc0, bgc1, bgc2⟩ := three Kg.out
  obtain ⟨brc0, brc1, brc2⟩ := three Kr.out
  have fzr := fun q => Kr.out.frozen q
  clear bgc0 bgc1 bgc2 brc0 brc1 brc2 fzr
  obtain ⟨bgc0, bgc1, bgc2⟩ := three Kg.out
  obtain ⟨brc0, brc1, brc2⟩ := three Kr.out
  have fzr := fun q => Kr.out.frozen q
  replace Kr := Lib.hid (show Blk (w1.setCell ⟨G + 1, 0, none⟩ (.int .i64 x1)) (G + 1) 88 #[.int .i64 x1, .int .i64 0, .int .i64 0] from Kr.out.set_ 0 (.int .i64 x1))
  replace Kg := Lib.hid (show Blk (w1.setCell ⟨G + 1, 0, none⟩ (.int .i64 x1)) (G) _ _ from Kg.out.far (p := ⟨G + 1, 0, none⟩) (by simp; try omega) (.int .i64 x1))
  replace B := Lib.hid (show Below w.heap.size w (w1.setCell ⟨G + 1, 0, none⟩ (.int .i64 x1)) from B.out.setCell (p := ⟨G + 1, 0, none⟩) (show w.heap.size ≤ G + 1 by have := HG.out; omega) (.int .i64 x1))
  replace Kr := Lib.hid (show Blk ((w1.setCell ⟨G + 1, 0, none⟩ (.int .i64 x1)).setCell ⟨G + 1, 1, none⟩ (.int .i64 x2)) (G + 1) 88 #[.int .i64 x1, .int .i64 x2, .int .i64 0] from Kr.out.set_ 1 (.int .i64 x2))
  replace Kg := Lib.hid (show Blk ((w1.setCell ⟨G + 1, 0, none⟩ (.int .i64 x1)).setCell ⟨G + 1, 1, none⟩ (.int .i64 x2)) (G) _ _ from Kg.out.far (p := ⟨G + 1, 1, none⟩) (by simp; try omega) (.int .i64 x2))
  replace B := Lib.hid (show Below w.heap.size w ((w1.setCell ⟨G + 1, 0, none⟩ (.int .i64 x1)).setCell ⟨G + 1, 1, none⟩ (.int .i64 x2)) from B.out.setCell (p := ⟨G + 1, 1, none⟩) (show w.heap.size ≤ G + 1 by have := HG.out; omega) (.int .i64 x2))
  replace Kr := Lib.hid (show Blk (((w1.setCell ⟨G + 1, 0, none⟩ (.int .i64 x1)).setCell ⟨G + 1, 1, none⟩ (.int .i64 x2)).setCell ⟨G + 1, 2, none⟩ (.int .i64 x3)) (G + 1) 88 #[.int .i64 x1, .int .i64 x2, .int .i64 x3] from Kr.out.set_ 2 (.int .i64 x3))
  replace Kg := Lib.hid (show Blk (((w1.setCell ⟨G + 1, 0, none⟩ (.int .i64 x1)).setCell ⟨G + 1, 1, none⟩ (.int .i64 x2)).setCell ⟨G + 1, 2, none⟩ (.int .i64 x3)) (G) _ _ from Kg.out.far (p := ⟨G + 1, 2, none⟩) (by simp; try omega) (.int .i64 x3))
  replace B := Lib.hid (show Below w.heap.size w (((w1.setCell ⟨G + 1, 0, none⟩ (.int .i64 x1)).setCell ⟨G + 1, 1, none⟩ (.int .i64 x2)).setCell ⟨G + 1, 2, none⟩ (.int .i64 x3)) from B.out.setCell (p := ⟨G + 1, 2, none⟩) (show w.heap.size ≤ G + 1 by have := HG.out; omega) (.int .i64 x3))
  go_wp2
  generalize hw : (((w1.setCell ⟨G + 1, 0, none⟩ (.int .i64 x1)).setCell ⟨G + 1, 1, none⟩ (.int .i64 x2)).setCell ⟨G + 1, 2, none⟩ (.int .i64 x3)) = w2 at Kg Kr B ⊢
  clear bgc0 bgc1 bgc2 brc0 brc1 brc2 fzr
  clear hw
  obtain ⟨d0, d1, d2⟩ := three Kr.out
  refine bodyPost_ret (by simp [results, Tryd.results36, go_sem, d0, d1, d2]; try rfl) rfl ?_
  exact ⟨by rw [HR.out]; rfl, B.out⟩
set_option maxRecDepth 100000 in
set_option maxHeartbeats 2000000 in
theorem grantOf_no (la mo : Int) (a : Option Addr) (c : Nat) (l : List Gr) (n : Int) (w : World) (hp : GrA w a l) (ord : OrdG l) (hm : l.length ≤ 1000000) (hh : hasG n l = false) :
    Calls Tryd.prog 36 #[.agg #[.int .i64 la, .int .i64 mo, .slice a l.length c], .int .i64 n] w fun e w' => e = .returned (.agg (encG (rowL n l)).toArray) ∧ Below w.heap.size w w' := by
  have HP := Lib.hid hp
  have R := Lib.hid (fun (X : World) (h : GrA X a l) => place_any la mo a c l n X h ord hm)
  skip
  have HR := Lib.hid (show rowL n l = if hasG n l = true then l.getD (posG n l) g0 else (n, 0, 0) from rfl)
  rw [hh] at R HR
  obtain ⟨i, hi⟩ : ∃ i, posG n l = i := ⟨_, rfl⟩
  rw [hi] at R HR
  obtain ⟨N, hN⟩ : ∃ N, l.length = N := ⟨_, rfl⟩
  have HE := Lib.hid hN
  simp only [hN] at R
  rw [hN] at hm ⊢
  clear hp hN ord hh hm hi
  go_enter Tryd.func36, Tryd.ntmps36
  obtain ⟨G, hG⟩ : ∃ G, w.heap.size = G := ⟨_, rfl⟩
  have HG := Lib.hid hG
  obtain ⟨w0, hw0, Kg, Kr, B⟩ : ∃ X, ((w.alloc (.cells #[.int .i64 la, .int .i64 mo, .slice a N c] 24)).alloc (.cells #[.int .i64 0, .int .i64 0, .int .i64 0] 88)) = X ∧ Hid (Blk X (G) 24 #[.int .i64 la, .int .i64 mo, .slice a N c]) ∧ Hid (Blk X (G + 1) 88 #[.int .i64 0, .int .i64 0, .int .i64 0]) ∧ Hid (Below w.heap.size w X) := ⟨_, rfl, Lib.hid ((Blk.new' _ _ _ _ hG rfl).alloc _), Lib.hid (Blk.new' _ _ _ _ (by rw [World.size_alloc, hG]) rfl), Lib.hid (by (repeat' (first | (with_reducible exact Below.refl _ _) | (with_reducible assumption) | (with_reducible refine Below.alloc ?_ ?_ _) | (with_reducible refine Below.drew ?_) | (with_reducible refine below_dn ?_) | (with_reducible refine Below.setCell ?_ ?_ _) | (with_reducible exact Nat.le_refl _) | omega | (simp only [World.size_alloc, World.size_setCell, World.size_drew]; omega) | (simp; omega) | (simp; done))))⟩
  go_upto_region 1 with (fail)
  try rw [hG]
  try rw [hw0]
  clear hw0 hG
  obtain ⟨bgc0, bgc1, bgc2⟩ := three Kg.out
  obtain ⟨brc0, brc1, brc2⟩ := three Kr.out
  have fzr := fun q => Kr.out.frozen q
  go_wp2_with fail
  refine (R.out _ (HP.out.mono B.out)).mono ?_
  rintro e w1 ⟨rfl, hb⟩
  replace Kg := Lib.hid (Kg.out.below hb Kg.out.lt)
  replace Kr := Lib.hid (Kr.out.below hb Kr.out.lt)
  replace B := Lib.hid (B.out.trans (hb.mono B.out.size))
  clear bgc0 bgc1 bgc2 brc0 brc1 brc2 fzr
  clear hb
  obtain ⟨bgc0, bgc1, bgc2⟩ := three Kg.out
  obtain ⟨brc0, brc1, brc2⟩ := three Kr.out
  replace HR := Lib.hid (show rowL n l = (n, 0, 0) by rw [HR.out, if_neg (by simp)])
  clear R
  clear bgc0 bgc1 bgc2 brc0 brc1 brc2
  obtain ⟨bgc0, bgc1, bgc2⟩ := three Kg.out
  obtain ⟨brc0, brc1, brc2⟩ := three Kr.out
  have fzr := fun q => Kr.out.frozen q
  clear bgc0 bgc1 bgc2 brc0 brc1 brc2 fzr
  obtain ⟨bgc0, bgc1, bgc2⟩ := three Kg.out
  obtain ⟨brc0, brc1, brc2⟩ := three Kr.out
  have fzr := fun q => Kr.out.frozen q
  replace Kr := Lib.hid (show Blk (w1.setCell ⟨G + 1, 0, none⟩ (.int .i64 n)) (G + 1) 88 #[.int .i64 n, .int .i64 0, .int .i64 0] from Kr.out.set_ 0 (.int .i64 n))
  replace Kg := Lib.hid (show Blk (w1.setCell ⟨G + 1, 0, none⟩ (.int .i64 n)) (G) _ _ from Kg.out.far (p := ⟨G + 1, 0, none⟩) (by simp; try omega) (.int .i64 n))
  replace B := Lib.hid (show Below w.heap.size w (w1.setCell ⟨G + 1, 0, none⟩ (.int .i64 n)) from B.out.setCell (p := ⟨G + 1, 0, none⟩) (show w.heap.size ≤ G + 1 by have := HG.out; omega) (.int .i64 n))
  replace Kr := Lib.hid (show Blk ((w1.setCell ⟨G + 1, 0, none⟩ (.int .i64 n)).setCell ⟨G + 1, 1, none⟩ (.int .i64 0)) (G + 1) 88 #[.int .i64 n, .int .i64 0, .int .i64 0] from Kr.out.set_ 1 (.int .i64 0))
  replace Kg := Lib.hid (show Blk ((w1.setCell ⟨G + 1, 0, none⟩ (.int .i64 n)).setCell ⟨G + 1, 1, none⟩ (.int .i64 0)) (G) _ _ from Kg.out.far (p := ⟨G + 1, 1, none⟩) (by simp; try omega) (.int .i64 0))
  replace B := Lib.hid (show Below w.heap.size w ((w1.setCell ⟨G + 1, 0, none⟩ (.int .i64 n)).setCell ⟨G + 1, 1, none⟩ (.int .i64 0)) from B.out.setCell (p := ⟨G + 1, 1, none⟩) (show w.heap.size ≤ G + 1 by have := HG.out; omega) (.int .i64 0))
  replace Kr := Lib.hid (show Blk (((w1.setCell ⟨G + 1, 0, none⟩ (.int .i64 n)).setCell ⟨G + 1, 1, none⟩ (.int .i64 0)).setCell ⟨G + 1, 2, none⟩ (.int .i64 0)) (G + 1) 88 #[.int .i64 n, .int .i64 0, .int .i64 0] from Kr.out.set_ 2 (.int .i64 0))
  replace Kg := Lib.hid (show Blk (((w1.setCell ⟨G + 1, 0, none⟩ (.int .i64 n)).setCell ⟨G + 1, 1, none⟩ (.int .i64 0)).setCell ⟨G + 1, 2, none⟩ (.int .i64 0)) (G) _ _ from Kg.out.far (p := ⟨G + 1, 2, none⟩) (by simp; try omega) (.int .i64 0))
  replace B := Lib.hid (show Below w.heap.size w (((w1.setCell ⟨G + 1, 0, none⟩ (.int .i64 n)).setCell ⟨G + 1, 1, none⟩ (.int .i64 0)).setCell ⟨G + 1, 2, none⟩ (.int .i64 0)) from B.out.setCell (p := ⟨G + 1, 2, none⟩) (show w.heap.size ≤ G + 1 by have := HG.out; omega) (.int .i64 0))
  go_wp2
  generalize hw : (((w1.setCell ⟨G + 1, 0, none⟩ (.int .i64 n)).setCell ⟨G + 1, 1, none⟩ (.int .i64 0)).setCell ⟨G + 1, 2, none⟩ (.int .i64 0)) = w2 at Kg Kr B ⊢
  clear bgc0 bgc1 bgc2 brc0 brc1 brc2 fzr
  clear hw
  obtain ⟨d0, d1, d2⟩ := three Kr.out
  refine bodyPost_ret (by simp [results, Tryd.results36, go_sem, d0, d1, d2]; try rfl) rfl ?_
  exact ⟨by rw [HR.out]; rfl, B.out⟩
theorem grantOf_any (la mo : Int) (a : Option Addr) (c : Nat) (l : List Gr) (n : Int) (w : World) (hp : GrA w a l) (ord : OrdG l) (hm : l.length ≤ 1000000) :
    Calls Tryd.prog 36 #[.agg #[.int .i64 la, .int .i64 mo, .slice a l.length c], .int .i64 n] w fun e w' => e = .returned (.agg (encG (rowL n l)).toArray) ∧ Below w.heap.size w w' := by
  cases hh : hasG n l with
  | true => exact grantOf_yes la mo a c l n w hp ord hm hh
  | false => exact grantOf_no la mo a c l n w hp ord hm hh
set_option maxRecDepth 100000 in
set_option maxHeartbeats 2000000 in
theorem copied_any (la mo : Int) (a : Option Addr) (c : Nat) (l : List Gr) (w : World) (hp : GrA w a l) (hm : l.length ≤ 1000000) :
    Calls Tryd.prog 33 #[.agg #[.int .i64 la, .int .i64 mo, .slice a l.length c]] w fun e w' => (∃ a' c' Z, e = .returned (.agg #[.int .i64 la, .int .i64 mo, .slice a' l.length c']) ∧ OwnA w' Z (.slice a' l.length c') l ∧ w.heap.size ≤ Z ∧ Z ≤ w'.heap.size) ∧ Below w.heap.size w w' := by
  have HP := Lib.hid hp
  have CL := Lib.hid (fun (X : World) (h : GrA X a l) => clone_any a c l X h hm)
  obtain ⟨N, hN⟩ : ∃ N, l.length = N := ⟨_, rfl⟩
  have HE := Lib.hid hN
  simp only [hN] at CL
  rw [hN]
  clear hp hN hm
  go_enter Tryd.func33, Tryd.ntmps33
  obtain ⟨G, hG⟩ : ∃ G, w.heap.size = G := ⟨_, rfl⟩
  have HG := Lib.hid hG
  obtain ⟨w0, hw0, Kg, Kr, B⟩ : ∃ X, ((w.alloc (.cells #[.int .i64 la, .int .i64 mo, .slice a N c] 24)).alloc (.cells #[.int .i64 0, .int .i64 0, .slice none 0 0] 24)) = X ∧ Hid (Blk X (G) 24 #[.int .i64 la, .int .i64 mo, .slice a N c]) ∧ Hid (Blk X (G + 1) 24 #[.int .i64 0, .int .i64 0, .slice none 0 0]) ∧ Hid (Below w.heap.size w X) := ⟨_, rfl, Lib.hid ((Blk.new' _ _ _ _ hG rfl).alloc _), Lib.hid (Blk.new' _ _ _ _ (by rw [World.size_alloc, hG]) rfl), Lib.hid (by (repeat' (first | (with_reducible exact Below.refl _ _) | (with_reducible assumption) | (with_reducible refine Below.alloc ?_ ?_ _) | (with_reducible refine Below.drew ?_) | (with_reducible refine below_dn ?_) | (with_reducible refine Below.setCell ?_ ?_ _) | (with_reducible exact Nat.le_refl _) | omega | (simp only [World.size_alloc, World.size_setCell, World.size_drew]; omega) | (simp; omega) | (simp; done))))⟩
  go_upto_region 1 with (fail)
  try rw [hG]
  try rw [hw0]
  clear hw0 hG
  obtain ⟨bgc0, bgc1, bgc2⟩ := three Kg.out
  obtain ⟨brc0, brc1, brc2⟩ := three Kr.out
  have fzg := fun q => Kg.out.frozen q
  have fzr := fun q => Kr.out.frozen q
  have HW6 := Lib.hid (show G + 2 ≤ w0.heap.size by have := Kr.out.lt; omega)
  go_wp2_with fail
  refine (CL.out _ (HP.out.mono B.out)).mono ?_
  rintro e w1 ⟨v6, rfl, ho, hb⟩
  obtain ⟨Z6, hZ⟩ : ∃ Z, w0.heap.size = Z := ⟨_, rfl⟩
  have H6 := Lib.hid (show G + 2 ≤ Z6 by rw [← hZ]; exact HW6.out)
  have Y6 := Lib.hid (show Z6 ≤ w1.heap.size by rw [← hZ]; exact hb.size)
  have O6 := Lib.hid (show OwnA w1 Z6 v6 l by rw [← hZ]; exact ho)
  replace Kg := Lib.hid (Kg.out.below hb Kg.out.lt)
  replace Kr := Lib.hid (Kr.out.below hb Kr.out.lt)
  replace B := Lib.hid (B.out.trans (hb.mono B.out.size))
  clear bgc0 bgc1 bgc2 brc0 brc1 brc2 fzg fzr
  clear hb ho CL HW6 hZ
  obtain ⟨a6, c6, rfl, -, -⟩ := OwnR.view encG_len O6.out
  rw [HE.out] at O6 ⊢
  obtain ⟨bgc0, bgc1, bgc2⟩ := three Kg.out
  obtain ⟨brc0, brc1, brc2⟩ := three Kr.out
  have fzg := fun q => Kg.out.frozen q
  have fzr := fun q => Kr.out.frozen q
  clear bgc0 bgc1 bgc2 brc0 brc1 brc2 fzg fzr
  obtain ⟨bgc0, bgc1, bgc2⟩ := three Kg.out
  obtain ⟨brc0, brc1, brc2⟩ := three Kr.out
  have fzg := fun q => Kg.out.frozen q
  replace O6 := Lib.hid (OwnR.far O6.out (p := ⟨G, 2, none⟩) (show G < Z6 by have := H6.out; omega) (.slice a6 N c6))
  replace Y6 := Lib.hid (show Z6 ≤ (w1.setCell ⟨G, 2, none⟩ (.slice a6 N c6)).heap.size by have := Y6.out; simp only [World.size_setCell] at this ⊢; omega)
  replace Kg := Lib.hid (show Blk (w1.setCell ⟨G, 2, none⟩ (.slice a6 N c6)) (G) 24 #[.int .i64 la, .int .i64 mo, .slice a6 N c6] from Kg.out.set_ 2 (.slice a6 N c6))
  replace Kr := Lib.hid (show Blk (w1.setCell ⟨G, 2, none⟩ (.slice a6 N c6)) (G + 1) _ _ from Kr.out.far (p := ⟨G, 2, none⟩) (by simp; try omega) (.slice a6 N c6))
  replace B := Lib.hid (show Below w.heap.size w (w1.setCell ⟨G, 2, none⟩ (.slice a6 N c6)) from B.out.setCell (p := ⟨G, 2, none⟩) (show w.heap.size ≤ G by have := HG.out; omega) (.slice a6 N c6))
  go_upto_region 2 with (fail)
  generalize hw : (w1.setCell ⟨G, 2, none⟩ (.slice a6 N c6)) = w2 at Kg Kr O6 Y6 B ⊢
  clear bgc0 bgc1 bgc2 brc0 brc1 brc2 fzg
  clear hw
  obtain ⟨bgc0, bgc1, bgc2⟩ := three Kg.out
  obtain ⟨brc0, brc1, brc2⟩ := three Kr.out
  have fzg := fun q => Kg.out.frozen q
  have fzr := fun q => Kr.out.frozen q
  clear bgc0 bgc1 bgc2 brc0 brc1 brc2 fzg fzr
  obtain ⟨bgc0, bgc1, bgc2⟩ := three Kg.out
  obtain ⟨brc0, brc1, brc2⟩ := three Kr.out
  have fzr := fun q => Kr.out.frozen q
  replace O6 := Lib.hid (OwnR.far O6.out (p := ⟨G + 1, 0, none⟩) (show G + 1 < Z6 by have := H6.out; omega) (.int .i64 la))
  replace Y6 := Lib.hid (show Z6 ≤ (w2.setCell ⟨G + 1, 0, none⟩ (.int .i64 la)).heap.size by have := Y6.out; simp only [World.size_setCell] at this ⊢; omega)
  replace Kr := Lib.hid (show Blk (w2.setCell ⟨G + 1, 0, none⟩ (.int .i64 la)) (G + 1) 24 #[.int .i64 la, .int .i64 0, .slice none 0 0] from Kr.out.set_ 0 (.int .i64 la))
  replace Kg := Lib.hid (show Blk (w2.setCell ⟨G + 1, 0, none⟩ (.int .i64 la)) (G) _ _ from Kg.out.far (p := ⟨G + 1, 0, none⟩) (by simp; try omega) (.int .i64 la))
  replace B := Lib.hid (show Below w.heap.size w (w2.setCell ⟨G + 1, 0, none⟩ (.int .i64 la)) from B.out.setCell (p := ⟨G + 1, 0, none⟩) (show w.heap.size ≤ G + 1 by have := HG.out; omega) (.int .i64 la))
  replace O6 := Lib.hid (OwnR.far O6.out (p := ⟨G + 1, 1, none⟩) (show G + 1 < Z6 by have := H6.out; omega) (.int .i64 mo))
  replace Y6 := Lib.hid (show Z6 ≤ ((w2.setCell ⟨G + 1, 0, none⟩ (.int .i64 la)).setCell ⟨G + 1, 1, none⟩ (.int .i64 mo)).heap.size by have := Y6.out; simp only [World.size_setCell] at this ⊢; omega)
  replace Kr := Lib.hid (show Blk ((w2.setCell ⟨G + 1, 0, none⟩ (.int .i64 la)).setCell ⟨G + 1, 1, none⟩ (.int .i64 mo)) (G + 1) 24 #[.int .i64 la, .int .i64 mo, .slice none 0 0] from Kr.out.set_ 1 (.int .i64 mo))
  replace Kg := Lib.hid (show Blk ((w2.setCell ⟨G + 1, 0, none⟩ (.int .i64 la)).setCell ⟨G + 1, 1, none⟩ (.int .i64 mo)) (G) _ _ from Kg.out.far (p := ⟨G + 1, 1, none⟩) (by simp; try omega) (.int .i64 mo))
  replace B := Lib.hid (show Below w.heap.size w ((w2.setCell ⟨G + 1, 0, none⟩ (.int .i64 la)).setCell ⟨G + 1, 1, none⟩ (.int .i64 mo)) from B.out.setCell (p := ⟨G + 1, 1, none⟩) (show w.heap.size ≤ G + 1 by have := HG.out; omega) (.int .i64 mo))
  replace O6 := Lib.hid (OwnR.far O6.out (p := ⟨G + 1, 2, none⟩) (show G + 1 < Z6 by have := H6.out; omega) (.slice a6 N c6))
  replace Y6 := Lib.hid (show Z6 ≤ (((w2.setCell ⟨G + 1, 0, none⟩ (.int .i64 la)).setCell ⟨G + 1, 1, none⟩ (.int .i64 mo)).setCell ⟨G + 1, 2, none⟩ (.slice a6 N c6)).heap.size by have := Y6.out; simp only [World.size_setCell] at this ⊢; omega)
  replace Kr := Lib.hid (show Blk (((w2.setCell ⟨G + 1, 0, none⟩ (.int .i64 la)).setCell ⟨G + 1, 1, none⟩ (.int .i64 mo)).setCell ⟨G + 1, 2, none⟩ (.slice a6 N c6)) (G + 1) 24 #[.int .i64 la, .int .i64 mo, .slice a6 N c6] from Kr.out.set_ 2 (.slice a6 N c6))
  replace Kg := Lib.hid (show Blk (((w2.setCell ⟨G + 1, 0, none⟩ (.int .i64 la)).setCell ⟨G + 1, 1, none⟩ (.int .i64 mo)).setCell ⟨G + 1, 2, none⟩ (.slice a6 N c6)) (G) _ _ from Kg.out.far (p := ⟨G + 1, 2, none⟩) (by simp; try omega) (.slice a6 N c6))
  replace B := Lib.hid (show Below w.heap.size w (((w2.setCell ⟨G + 1, 0, none⟩ (.int .i64 la)).setCell ⟨G + 1, 1, none⟩ (.int .i64 mo)).setCell ⟨G + 1, 2, none⟩ (.slice a6 N c6)) from B.out.setCell (p := ⟨G + 1, 2, none⟩) (show w.heap.size ≤ G + 1 by have := HG.out; omega) (.slice a6 N c6))
  go_wp2
  generalize hw : (((w2.setCell ⟨G + 1, 0, none⟩ (.int .i64 la)).setCell ⟨G + 1, 1, none⟩ (.int .i64 mo)).setCell ⟨G + 1, 2, none⟩ (.slice a6 N c6)) = w3 at Kg Kr O6 Y6 B ⊢
  clear bgc0 bgc1 bgc2 brc0 brc1 brc2 fzr
  clear hw
  obtain ⟨d0, d1, d2⟩ := three Kr.out
  refine bodyPost_ret (by simp [results, Tryd.results33, go_sem, d0, d1, d2]; try rfl) rfl ?_
  exact ⟨⟨a6, c6, Z6, rfl, O6.out, by have := H6.out; have := HG.out; omega, Y6.out⟩, B.out⟩
theorem eq_grant_no (x1 x2 x3 : Int) (W : World) (h : ¬ (x2 = 0 ∧ x3 = 0)) : (binOp .neq 88 (.agg #[.int .i64 x1, .int .i64 x2, .int .i64 x3]) (.agg #[.int .i64 x1, .int .i64 0, .int .i64 0])).run Tryd.prog W = .ok (.bool true) W := by
  go_simp
  exact fun a b => h ⟨a, b⟩
set_option maxRecDepth 100000 in
set_option maxHeartbeats 4000000 in
theorem with_found (la mo : Int) (a : Option Addr) (c : Nat) (l : List Gr) (x : Gr) (w : World) (hp : GrA w a l) (ord : OrdG l) (hm : l.length ≤ 10000) (hh : hasG x.1 l = true) :
    Calls Tryd.prog 37 #[.agg #[.int .i64 la, .int .i64 mo, .slice a l.length c], .agg (encG x).toArray] w fun e w' => (∃ a' c', e = .returned (.agg #[.int .i64 la, .int .i64 mo, .slice a' (withL x l).length c']) ∧ GrA w' a' (withL x l) ∧ ∀ p, a' = some p → w.heap.size ≤ p.block) ∧ Below w.heap.size w w' := by
  have HP := Lib.hid hp
  have CL := Lib.hid (fun (X : World) (h : GrA X a l) => copied_any la mo a c l X h (by omega))
  have PL := Lib.hid (fun (a6 : Option Addr) (c6 : Nat) (X : World) (h : GrA X a6 l) => place_any la mo a6 c6 l x.1 X h ord (by omega))
  have HWL := Lib.hid (show withL x l = if hasG x.1 l = true then l.set (posG x.1 l) x else if x = (x.1, 0, 0) then l else insL l (posG x.1 l) x from rfl)
  have HI := Lib.hid (show posG x.1 l ≤ l.length ∧ (hasG x.1 l = true → posG x.1 l < l.length) from ⟨posG_le _ _, fun q => (has_yes q).1⟩)
  rw [hh] at PL HWL HI
  obtain ⟨i, hi⟩ : ∃ i, posG x.1 l = i := ⟨_, rfl⟩
  rw [hi] at PL HWL HI
  obtain ⟨N, hN⟩ : ∃ N, l.length = N := ⟨_, rfl⟩
  have HE := Lib.hid hN
  simp only [hN] at PL CL HI
  rw [hN] at hm ⊢
  obtain ⟨x1, x2, x3⟩ := x
  simp only [encG] at PL HWL ⊢
  have HMx := Lib.hid hm
  clear hp hN ord hh hi hm
  go_enter Tryd.func37, Tryd.ntmps37
  obtain ⟨G, hG⟩ : ∃ G, w.heap.size = G := ⟨_, rfl⟩
  have HG := Lib.hid hG
  obtain ⟨w0, hw0, Kg, Kx, Kr, B⟩ : ∃ X, (((w.alloc (.cells #[.int .i64 la, .int .i64 mo, .slice a N c] 24)).alloc (.cells #[.int .i64 x1, .int .i64 x2, .int .i64 x3] 88)).alloc (.cells #[.int .i64 0, .int .i64 0, .slice none 0 0] 24)) = X ∧ Hid (Blk X (G) 24 #[.int .i64 la, .int .i64 mo, .slice a N c]) ∧ Hid (Blk X (G + 1) 88 #[.int .i64 x1, .int .i64 x2, .int .i64 x3]) ∧ Hid (Blk X (G + 1 + 1) 24 #[.int .i64 0, .int .i64 0, .slice none 0 0]) ∧ Hid (Below w.heap.size w X) := ⟨_, rfl, Lib.hid (((Blk.new' _ _ _ _ hG rfl).alloc _).alloc _), Lib.hid ((Blk.new' _ _ _ _ (by rw [World.size_alloc, hG]) rfl).alloc _), Lib.hid (Blk.new' _ _ _ _ (by rw [World.size_alloc, World.size_alloc, hG]) rfl), Lib.hid (by (repeat' (first | (with_reducible exact Below.refl _ _) | (with_reducible assumption) | (with_reducible refine Below.alloc ?_ ?_ _) | (with_reducible refine Below.drew ?_) | (with_reducible refine below_dn ?_) | (with_reducible refine Below.setCell ?_ ?_ _) | (with_reducible exact Nat.le_refl _) | omega | (simp only [World.size_alloc, World.size_setCell, World.size_drew]; omega) | (simp; omega) | (simp; done))))⟩
  go_upto_region 1 with (fail)
  try rw [hG]
  try rw [hw0]
  clear hw0 hG
  obtain ⟨bgc0, bgc1, bgc2⟩ := three Kg.out
  obtain ⟨bxc0, bxc1, bxc2⟩ := three Kx.out
  obtain ⟨brc0, brc1, brc2⟩ := three Kr.out
  have fzg := fun q => Kg.out.frozen q
  have fzx := fun q => Kx.out.frozen q
  have fzr := fun q => Kr.out.frozen q
  have HW6 := Lib.hid (show G + 3 ≤ w0.heap.size by have := Kr.out.lt; omega)
  go_wp2_with fail
  refine (CL.out _ (HP.out.mono B.out)).mono ?_
  rintro e w1 ⟨⟨a6, c6, Z6, rfl, ho, hz1, hz2⟩, hb⟩
  have H6 := Lib.hid (show G + 3 ≤ Z6 from Nat.le_trans HW6.out hz1)
  have Y6 := Lib.hid hz2
  have O6 := Lib.hid ho
  replace Kg := Lib.hid (Kg.out.below hb Kg.out.lt)
  replace Kx := Lib.hid (Kx.out.below hb Kx.out.lt)
  replace Kr := Lib.hid (Kr.out.below hb Kr.out.lt)
  replace B := Lib.hid (B.out.trans (hb.mono B.out.size))
  clear bgc0 bgc1 bgc2 bxc0 bxc1 bxc2 brc0 brc1 brc2 fzg fzx fzr
  clear hb ho CL HW6 hz1 hz2
  obtain ⟨bgc0, bgc1, bgc2⟩ := three Kg.out
  obtain ⟨bxc0, bxc1, bxc2⟩ := three Kx.out
  obtain ⟨brc0, brc1, brc2⟩ := three Kr.out
  have fzg := fun q => Kg.out.frozen q
  have fzr := fun q => Kr.out.frozen q
  clear bgc0 bgc1 bgc2 bxc0 bxc1 bxc2 brc0 brc1 brc2 fzg fzr
  obtain ⟨bgc0, bgc1, bgc2⟩ := three Kg.out
  obtain ⟨bxc0, bxc1, bxc2⟩ := three Kx.out
  obtain ⟨brc0, brc1, brc2⟩ := three Kr.out
  have fzg := fun q => Kg.out.frozen q
  replace O6 := Lib.hid (OwnR.far O6.out (p := ⟨G, 0, none⟩) (show G < Z6 by have := H6.out; omega) (.int .i64 la))
  replace Y6 := Lib.hid (show Z6 ≤ (w1.setCell ⟨G, 0, none⟩ (.int .i64 la)).heap.size by have := Y6.out; simp only [World.size_setCell] at this ⊢; omega)
  replace Kg := Lib.hid (show Blk (w1.setCell ⟨G, 0, none⟩ (.int .i64 la)) (G) 24 #[.int .i64 la, .int .i64 mo, .slice a N c] from Kg.out.set_ 0 (.int .i64 la))
  replace Kx := Lib.hid (show Blk (w1.setCell ⟨G, 0, none⟩ (.int .i64 la)) (G + 1) _ _ from Kx.out.far (p := ⟨G, 0, none⟩) (by simp; try omega) (.int .i64 la))
  replace Kr := Lib.hid (show Blk (w1.setCell ⟨G, 0, none⟩ (.int .i64 la)) (G + 1 + 1) _ _ from Kr.out.far (p := ⟨G, 0, none⟩) (by simp; try omega) (.int .i64 la))
  replace B := Lib.hid (show Below w.heap.size w (w1.setCell ⟨G, 0, none⟩ (.int .i64 la)) from B.out.setCell (p := ⟨G, 0, none⟩) (show w.heap.size ≤ G by have := HG.out; omega) (.int .i64 la))
  replace O6 := Lib.hid (OwnR.far O6.out (p := ⟨G, 1, none⟩) (show G < Z6 by have := H6.out; omega) (.int .i64 mo))
  replace Y6 := Lib.hid (show Z6 ≤ ((w1.setCell ⟨G, 0, none⟩ (.int .i64 la)).setCell ⟨G, 1, none⟩ (.int .i64 mo)).heap.size by have := Y6.out; simp only [World.size_setCell] at this ⊢; omega)
  replace Kg := Lib.hid (show Blk ((w1.setCell ⟨G, 0, none⟩ (.int .i64 la)).setCell ⟨G, 1, none⟩ (.int .i64 mo)) (G) 24 #[.int .i64 la, .int .i64 mo, .slice a N c] from Kg.out.set_ 1 (.int .i64 mo))
  replace Kx := Lib.hid (show Blk ((w1.setCell ⟨G, 0, none⟩ (.int .i64 la)).setCell ⟨G, 1, none⟩ (.int .i64 mo)) (G + 1) _ _ from Kx.out.far (p := ⟨G, 1, none⟩) (by simp; try omega) (.int .i64 mo))
  replace Kr := Lib.hid (show Blk ((w1.setCell ⟨G, 0, none⟩ (.int .i64 la)).setCell ⟨G, 1, none⟩ (.int .i64 mo)) (G + 1 + 1) _ _ from Kr.out.far (p := ⟨G, 1, none⟩) (by simp; try omega) (.int .i64 mo))
  replace B := Lib.hid (show Below w.heap.size w ((w1.setCell ⟨G, 0, none⟩ (.int .i64 la)).setCell ⟨G, 1, none⟩ (.int .i64 mo)) from B.out.setCell (p := ⟨G, 1, none⟩) (show w.heap.size ≤ G by have := HG.out; omega) (.int .i64 mo))
  replace O6 := Lib.hid (OwnR.far O6.out (p := ⟨G, 2, none⟩) (show G < Z6 by have := H6.out; omega) (.slice a6 N c6))
  replace Y6 := Lib.hid (show Z6 ≤ (((w1.setCell ⟨G, 0, none⟩ (.int .i64 la)).setCell ⟨G, 1, none⟩ (.int .i64 mo)).setCell ⟨G, 2, none⟩ (.slice a6 N c6)).heap.size by have := Y6.out; simp only [World.size_setCell] at this ⊢; omega)
  replace Kg := Lib.hid (show Blk (((w1.setCell ⟨G, 0, none⟩ (.int .i64 la)).setCell ⟨G, 1, none⟩ (.int .i64 mo)).setCell ⟨G, 2, none⟩ (.slice a6 N c6)) (G) 24 #[.int .i64 la, .int .i64 mo, .slice a6 N c6] from Kg.out.set_ 2 (.slice a6 N c6))
  replace Kx := Lib.hid (show Blk (((w1.setCell ⟨G, 0, none⟩ (.int .i64 la)).setCell ⟨G, 1, none⟩ (.int .i64 mo)).setCell ⟨G, 2, none⟩ (.slice a6 N c6)) (G + 1) _ _ from Kx.out.far (p := ⟨G, 2, none⟩) (by simp; try omega) (.slice a6 N c6))
  replace Kr := Lib.hid (show Blk (((w1.setCell ⟨G, 0, none⟩ (.int .i64 la)).setCell ⟨G, 1, none⟩ (.int .i64 mo)).setCell ⟨G, 2, none⟩ (.slice a6 N c6)) (G + 1 + 1) _ _ from Kr.out.far (p := ⟨G, 2, none⟩) (by simp; try omega) (.slice a6 N c6))
  replace B := Lib.hid (show Below w.heap.size w (((w1.setCell ⟨G, 0, none⟩ (.int .i64 la)).setCell ⟨G, 1, none⟩ (.int .i64 mo)).setCell ⟨G, 2, none⟩ (.slice a6 N c6)) from B.out.setCell (p := ⟨G, 2, none⟩) (show w.heap.size ≤ G by have := HG.out; omega) (.slice a6 N c6))
  go_upto_region 2 with (fail)
  generalize hw : (((w1.setCell ⟨G, 0, none⟩ (.int .i64 la)).setCell ⟨G, 1, none⟩ (.int .i64 mo)).setCell ⟨G, 2, none⟩ (.slice a6 N c6)) = w2 at Kg Kx Kr O6 Y6 B ⊢
  clear bgc0 bgc1 bgc2 bxc0 bxc1 bxc2 brc0 brc1 brc2 fzg
  clear hw
  obtain ⟨bgc0, bgc1, bgc2⟩ := three Kg.out
  obtain ⟨bxc0, bxc1, bxc2⟩ := three Kx.out
  obtain ⟨brc0, brc1, brc2⟩ := three Kr.out
  have fzg := fun q => Kg.out.frozen q
  have fzr := fun q => Kr.out.frozen q
  go_wp2_with fail
  refine (PL.out a6 c6 _ (own_rows O6.out)).mono ?_
  rintro e w3 ⟨rfl, hb⟩
  replace Kg := Lib.hid (Kg.out.below hb Kg.out.lt)
  replace Kx := Lib.hid (Kx.out.below hb Kx.out.lt)
  replace Kr := Lib.hid (Kr.out.below hb Kr.out.lt)
  replace B := Lib.hid (B.out.trans (hb.mono B.out.size))
  replace O6 := Lib.hid (OwnR.below O6.out hb)
  replace Y6 := Lib.hid (Nat.le_trans Y6.out hb.size)
  clear bgc0 bgc1 bgc2 bxc0 bxc1 bxc2 brc0 brc1 brc2 fzg fzr
  clear hb PL
  obtain ⟨bgc0, bgc1, bgc2⟩ := three Kg.out
  obtain ⟨bxc0, bxc1, bxc2⟩ := three Kx.out
  obtain ⟨brc0, brc1, brc2⟩ := three Kr.out
  have fzg := fun q => Kg.out.frozen q
  have fzr := fun q => Kr.out.frozen q
  have hi7 : i < l.length := by rw [HE.out]; exact HI.out.2 (by first | rfl | trivial)
  obtain ⟨g7, rfl, -, hB7, q0, q1, q2, fz7⟩ := own_at O6.out hi7
  have ST1 := own_set (j := 0) O6.out hi7 (by decide) (.int .i64 x1) (x1, (l.getD i g0).2.1, (l.getD i g0).2.2) rfl
  have ST2 := own_set (j := 1) ST1 (by rw [List.length_set]; exact hi7) (by decide) (.int .i64 x2) (x1, x2, (l.getD i g0).2.2) (by rw [getD_set _ _ _ hi7]; rfl)
  have ST3 := own_set (j := 2) ST2 (by rw [List.length_set, List.length_set]; exact hi7) (by decide) (.int .i64 x3) (x1, x2, x3) (by rw [getD_set _ _ _ (by rw [List.length_set]; exact hi7)]; rfl)
  rw [List.set_set, List.set_set] at ST3
  simp only [Nat.add_zero] at ST3
  have EQ := Lib.hid (show l.set i (x1, x2, x3) = withL (x1, x2, x3) l from by rw [HWL.out, if_pos (by first | rfl | trivial)])
  have LQ := Lib.hid (show (withL (x1, x2, x3) l).length = N by rw [← EQ.out, List.length_set]; exact HE.out)
  have i0 : (0 : Int) ≤ (i : Int) := by omega
  have iN : (i : Int) < (N : Int) := by have := HI.out.2 (by first | rfl | trivial); omega
  have zz := H6.out
  have ne1 : G ≠ g7 := by omega
  have ne2 : G + 1 ≠ g7 := by omega
  have ne3 : G + 1 + 1 ≠ g7 := by omega
  have ST := Lib.hid ST3
  have far3 : ∀ (Y : World) (k : Nat) (t : TypeId) (cs : Array Value), k ≠ g7 → Blk Y k t cs → Blk (((Y.setCell ⟨g7, i * 3, none⟩ (.int .i64 x1)).setCell ⟨g7, i * 3 + 1, none⟩ (.int .i64 x2)).setCell ⟨g7, i * 3 + 2, none⟩ (.int .i64 x3)) k t cs := fun Y k t cs hk h => ((h.far hk _).far hk _).far hk _
  replace Kg := Lib.hid (far3 _ _ _ _ ne1 Kg.out)
  replace Kx := Lib.hid (far3 _ _ _ _ ne2 Kx.out)
  replace Kr := Lib.hid (far3 _ _ _ _ ne3 Kr.out)
  replace B := Lib.hid (((B.out.setCell (p := ⟨g7, i * 3, none⟩) (show w.heap.size ≤ g7 by have := HG.out; omega) (.int .i64 x1)).setCell (p := ⟨g7, i * 3 + 1, none⟩) (show w.heap.size ≤ g7 by have := HG.out; omega) (.int .i64 x2)).setCell (p := ⟨g7, i * 3 + 2, none⟩) (show w.heap.size ≤ g7 by have := HG.out; omega) (.int .i64 x3))
  replace Y6 := Lib.hid (show Z6 ≤ (((w3.setCell ⟨g7, i * 3, none⟩ (.int .i64 x1)).setCell ⟨g7, i * 3 + 1, none⟩ (.int .i64 x2)).setCell ⟨g7, i * 3 + 2, none⟩ (.int .i64 x3)).heap.size by have := Y6.out; simp; omega)
  clear hi7 O6 ST1 ST2 ST3 far3 zz
  go_upto_region 7 with (fail)
  generalize hw7 : (((w3.setCell ⟨g7, i * 3, none⟩ (.int .i64 x1)).setCell ⟨g7, i * 3 + 1, none⟩ (.int .i64 x2)).setCell ⟨g7, i * 3 + 2, none⟩ (.int .i64 x3)) = w4 at ST Kg Kx Kr B Y6 ⊢
  clear hw7 q0 q1 q2 fz7
  have O6 := ST
  clear ST
  clear bgc0 bgc1 bgc2 bxc0 bxc1 bxc2 brc0 brc1 brc2 fzg fzr
  obtain ⟨bgc0, bgc1, bgc2⟩ := three Kg.out
  obtain ⟨bxc0, bxc1, bxc2⟩ := three Kx.out
  obtain ⟨brc0, brc1, brc2⟩ := three Kr.out
  have fzg := fun q => Kg.out.frozen q
  have fzr := fun q => Kr.out.frozen q
  clear bgc0 bgc1 bgc2 bxc0 bxc1 bxc2 brc0 brc1 brc2 fzg fzr
  obtain ⟨bgc0, bgc1, bgc2⟩ := three Kg.out
  obtain ⟨bxc0, bxc1, bxc2⟩ := three Kx.out
  obtain ⟨brc0, brc1, brc2⟩ := three Kr.out
  have fzr := fun q => Kr.out.frozen q
  replace O6 := Lib.hid (OwnR.far O6.out (p := ⟨G + 1 + 1, 0, none⟩) (show G + 1 + 1 < Z6 by have := H6.out; omega) (.int .i64 la))
  replace Y6 := Lib.hid (show Z6 ≤ (w4.setCell ⟨G + 1 + 1, 0, none⟩ (.int .i64 la)).heap.size by have := Y6.out; simp only [World.size_setCell] at this ⊢; omega)
  replace Kr := Lib.hid (show Blk (w4.setCell ⟨G + 1 + 1, 0, none⟩ (.int .i64 la)) (G + 1 + 1) 24 #[.int .i64 la, .int .i64 0, .slice none 0 0] from Kr.out.set_ 0 (.int .i64 la))
  replace Kg := Lib.hid (show Blk (w4.setCell ⟨G + 1 + 1, 0, none⟩ (.int .i64 la)) (G) _ _ from Kg.out.far (p := ⟨G + 1 + 1, 0, none⟩) (by simp; try omega) (.int .i64 la))
  replace Kx := Lib.hid (show Blk (w4.setCell ⟨G + 1 + 1, 0, none⟩ (.int .i64 la)) (G + 1) _ _ from Kx.out.far (p := ⟨G + 1 + 1, 0, none⟩) (by simp; try omega) (.int .i64 la))
  replace B := Lib.hid (show Below w.heap.size w (w4.setCell ⟨G + 1 + 1, 0, none⟩ (.int .i64 la)) from B.out.setCell (p := ⟨G + 1 + 1, 0, none⟩) (show w.heap.size ≤ G + 1 + 1 by have := HG.out; omega) (.int .i64 la))
  replace O6 := Lib.hid (OwnR.far O6.out (p := ⟨G + 1 + 1, 1, none⟩) (show G + 1 + 1 < Z6 by have := H6.out; omega) (.int .i64 mo))
  replace Y6 := Lib.hid (show Z6 ≤ ((w4.setCell ⟨G + 1 + 1, 0, none⟩ (.int .i64 la)).setCell ⟨G + 1 + 1, 1, none⟩ (.int .i64 mo)).heap.size by have := Y6.out; simp only [World.size_setCell] at this ⊢; omega)
  replace Kr := Lib.hid (show Blk ((w4.setCell ⟨G + 1 + 1, 0, none⟩ (.int .i64 la)).setCell ⟨G + 1 + 1, 1, none⟩ (.int .i64 mo)) (G + 1 + 1) 24 #[.int .i64 la, .int .i64 mo, .slice none 0 0] from Kr.out.set_ 1 (.int .i64 mo))
  replace Kg := Lib.hid (show Blk ((w4.setCell ⟨G + 1 + 1, 0, none⟩ (.int .i64 la)).setCell ⟨G + 1 + 1, 1, none⟩ (.int .i64 mo)) (G) _ _ from Kg.out.far (p := ⟨G + 1 + 1, 1, none⟩) (by simp; try omega) (.int .i64 mo))
  replace Kx := Lib.hid (show Blk ((w4.setCell ⟨G + 1 + 1, 0, none⟩ (.int .i64 la)).setCell ⟨G + 1 + 1, 1, none⟩ (.int .i64 mo)) (G + 1) _ _ from Kx.out.far (p := ⟨G + 1 + 1, 1, none⟩) (by simp; try omega) (.int .i64 mo))
  replace B := Lib.hid (show Below w.heap.size w ((w4.setCell ⟨G + 1 + 1, 0, none⟩ (.int .i64 la)).setCell ⟨G + 1 + 1, 1, none⟩ (.int .i64 mo)) from B.out.setCell (p := ⟨G + 1 + 1, 1, none⟩) (show w.heap.size ≤ G + 1 + 1 by have := HG.out; omega) (.int .i64 mo))
  replace O6 := Lib.hid (OwnR.far O6.out (p := ⟨G + 1 + 1, 2, none⟩) (show G + 1 + 1 < Z6 by have := H6.out; omega) (.slice (some ⟨g7, 0, none⟩) N c6))
  replace Y6 := Lib.hid (show Z6 ≤ (((w4.setCell ⟨G + 1 + 1, 0, none⟩ (.int .i64 la)).setCell ⟨G + 1 + 1, 1, none⟩ (.int .i64 mo)).setCell ⟨G + 1 + 1, 2, none⟩ (.slice (some ⟨g7, 0, none⟩) N c6)).heap.size by have := Y6.out; simp only [World.size_setCell] at this ⊢; omega)
  replace Kr := Lib.hid (show Blk (((w4.setCell ⟨G + 1 + 1, 0, none⟩ (.int .i64 la)).setCell ⟨G + 1 + 1, 1, none⟩ (.int .i64 mo)).setCell ⟨G + 1 + 1, 2, none⟩ (.slice (some ⟨g7, 0, none⟩) N c6)) (G + 1 + 1) 24 #[.int .i64 la, .int .i64 mo, .slice (some ⟨g7, 0, none⟩) N c6] from Kr.out.set_ 2 (.slice (some ⟨g7, 0, none⟩) N c6))
  replace Kg := Lib.hid (show Blk (((w4.setCell ⟨G + 1 + 1, 0, none⟩ (.int .i64 la)).setCell ⟨G + 1 + 1, 1, none⟩ (.int .i64 mo)).setCell ⟨G + 1 + 1, 2, none⟩ (.slice (some ⟨g7, 0, none⟩) N c6)) (G) _ _ from Kg.out.far (p := ⟨G + 1 + 1, 2, none⟩) (by simp; try omega) (.slice (some ⟨g7, 0, none⟩) N c6))
  replace Kx := Lib.hid (show Blk (((w4.setCell ⟨G + 1 + 1, 0, none⟩ (.int .i64 la)).setCell ⟨G + 1 + 1, 1, none⟩ (.int .i64 mo)).setCell ⟨G + 1 + 1, 2, none⟩ (.slice (some ⟨g7, 0, none⟩) N c6)) (G + 1) _ _ from Kx.out.far (p := ⟨G + 1 + 1, 2, none⟩) (by simp; try omega) (.slice (some ⟨g7, 0, none⟩) N c6))
  replace B := Lib.hid (show Below w.heap.size w (((w4.setCell ⟨G + 1 + 1, 0, none⟩ (.int .i64 la)).setCell ⟨G + 1 + 1, 1, none⟩ (.int .i64 mo)).setCell ⟨G + 1 + 1, 2, none⟩ (.slice (some ⟨g7, 0, none⟩) N c6)) from B.out.setCell (p := ⟨G + 1 + 1, 2, none⟩) (show w.heap.size ≤ G + 1 + 1 by have := HG.out; omega) (.slice (some ⟨g7, 0, none⟩) N c6))
  go_wp2
  generalize hw : (((w4.setCell ⟨G + 1 + 1, 0, none⟩ (.int .i64 la)).setCell ⟨G + 1 + 1, 1, none⟩ (.int .i64 mo)).setCell ⟨G + 1 + 1, 2, none⟩ (.slice (some ⟨g7, 0, none⟩) N c6)) = w5 at Kg Kx Kr O6 Y6 B ⊢
  clear bgc0 bgc1 bgc2 bxc0 bxc1 bxc2 brc0 brc1 brc2 fzr
  clear hw
  obtain ⟨d0, d1, d2⟩ := three Kr.out
  refine bodyPost_ret (by simp [results, Tryd.results37, go_sem, d0, d1, d2]; try rfl) rfl ?_
  refine ⟨⟨some ⟨g7, 0, none⟩, c6, by rw [LQ.out], ?_, fun p hp => ?_⟩, B.out⟩
  · rw [← EQ.out]; exact own_rows O6.out
  · have := OwnR.block O6.out p hp; have := H6.out; have := HG.out; omega
set_option maxRecDepth 100000 in
set_option maxHeartbeats 4000000 in
theorem with_empty (la mo : Int) (a : Option Addr) (c : Nat) (l : List Gr) (x : Gr) (w : World) (hp : GrA w a l) (ord : OrdG l) (hm : l.length ≤ 10000) (hh : hasG x.1 l = false) (h2 : x = (x.1, 0, 0)) :
    Calls Tryd.prog 37 #[.agg #[.int .i64 la, .int .i64 mo, .slice a l.length c], .agg (encG x).toArray] w fun e w' => (∃ a' c', e = .returned (.agg #[.int .i64 la, .int .i64 mo, .slice a' (withL x l).length c']) ∧ GrA w' a' (withL x l) ∧ ∀ p, a' = some p → w.heap.size ≤ p.block) ∧ Below w.heap.size w w' := by
  have HP := Lib.hid hp
  have CL := Lib.hid (fun (X : World) (h : GrA X a l) => copied_any la mo a c l X h (by omega))
  have PL := Lib.hid (fun (a6 : Option Addr) (c6 : Nat) (X : World) (h : GrA X a6 l) => place_any la mo a6 c6 l x.1 X h ord (by omega))
  have HWL := Lib.hid (show withL x l = if hasG x.1 l = true then l.set (posG x.1 l) x else if x = (x.1, 0, 0) then l else insL l (posG x.1 l) x from rfl)
  have HI := Lib.hid (show posG x.1 l ≤ l.length ∧ (hasG x.1 l = true → posG x.1 l < l.length) from ⟨posG_le _ _, fun q => (has_yes q).1⟩)
  rw [hh] at PL HWL HI
  obtain ⟨i, hi⟩ : ∃ i, posG x.1 l = i := ⟨_, rfl⟩
  rw [hi] at PL HWL HI
  obtain ⟨N, hN⟩ : ∃ N, l.length = N := ⟨_, rfl⟩
  have HE := Lib.hid hN
  simp only [hN] at PL CL HI
  rw [hN] at hm ⊢
  obtain ⟨x1, x2, x3⟩ := x
  injection h2 with _ h2
  injection h2 with ha hb0
  subst ha
  subst hb0
  simp only [encG] at PL HWL ⊢
  have HMx := Lib.hid hm
  clear hp hN ord hh hi hm
  go_enter Tryd.func37, Tryd.ntmps37
  obtain ⟨G, hG⟩ : ∃ G, w.heap.size = G := ⟨_, rfl⟩
  have HG := Lib.hid hG
  obtain ⟨w0, hw0, Kg, Kx, Kr, B⟩ : ∃ X, (((w.alloc (.cells #[.int .i64 la, .int .i64 mo, .slice a N c] 24)).alloc (.cells #[.int .i64 x1, .int .i64 0, .int .i64 0] 88)).alloc (.cells #[.int .i64 0, .int .i64 0, .slice none 0 0] 24)) = X ∧ Hid (Blk X (G) 24 #[.int .i64 la, .int .i64 mo, .slice a N c]) ∧ Hid (Blk X (G + 1) 88 #[.int .i64 x1, .int .i64 0, .int .i64 0]) ∧ Hid (Blk X (G + 1 + 1) 24 #[.int .i64 0, .int .i64 0, .slice none 0 0]) ∧ Hid (Below w.heap.size w X) := ⟨_, rfl, Lib.hid (((Blk.new' _ _ _ _ hG rfl).alloc _).alloc _), Lib.hid ((Blk.new' _ _ _ _ (by rw [World.size_alloc, hG]) rfl).alloc _), Lib.hid (Blk.new' _ _ _ _ (by rw [World.size_alloc, World.size_alloc, hG]) rfl), Lib.hid (by (repeat' (first | (with_reducible exact Below.refl _ _) | (with_reducible assumption) | (with_reducible refine Below.alloc ?_ ?_ _) | (with_reducible refine Below.drew ?_) | (with_reducible refine below_dn ?_) | (with_reducible refine Below.setCell ?_ ?_ _) | (with_reducible exact Nat.le_refl _) | omega | (simp only [World.size_alloc, World.size_setCell, World.size_drew]; omega) | (simp; omega) | (simp; done))))⟩
  go_upto_region 1 with (fail)
  try rw [hG]
  try rw [hw0]
  clear hw0 hG
  obtain ⟨bgc0, bgc1, bgc2⟩ := three Kg.out
  obtain ⟨bxc0, bxc1, bxc2⟩ := three Kx.out
  obtain ⟨brc0, brc1, brc2⟩ := three Kr.out
  have fzg := fun q => Kg.out.frozen q
  have fzx := fun q => Kx.out.frozen q
  have fzr := fun q => Kr.out.frozen q
  have HW6 := Lib.hid (show G + 3 ≤ w0.heap.size by have := Kr.out.lt; omega)
  go_wp2_with fail
  refine (CL.out _ (HP.out.mono B.out)).mono ?_
  rintro e w1 ⟨⟨a6, c6, Z6, rfl, ho, hz1, hz2⟩, hb⟩
  have H6 := Lib.hid (show G + 3 ≤ Z6 from Nat.le_trans HW6.out hz1)
  have Y6 := Lib.hid hz2
  have O6 := Lib.hid ho
  replace Kg := Lib.hid (Kg.out.below hb Kg.out.lt)
  replace Kx := Lib.hid (Kx.out.below hb Kx.out.lt)
  replace Kr := Lib.hid (Kr.out.below hb Kr.out.lt)
  replace B := Lib.hid (B.out.trans (hb.mono B.out.size))
  clear bgc0 bgc1 bgc2 bxc0 bxc1 bxc2 brc0 brc1 brc2 fzg fzx fzr
  clear hb ho CL HW6 hz1 hz2
  obtain ⟨bgc0, bgc1, bgc2⟩ := three Kg.out
  obtain ⟨bxc0, bxc1, bxc2⟩ := three Kx.out
  obtain ⟨brc0, brc1, brc2⟩ := three Kr.out
  have fzg := fun q => Kg.out.frozen q
  have fzr := fun q => Kr.out.frozen q
  clear bgc0 bgc1 bgc2 bxc0 bxc1 bxc2 brc0 brc1 brc2 fzg fzr
  obtain ⟨bgc0, bgc1, bgc2⟩ := three Kg.out
  obtain ⟨bxc0, bxc1, bxc2⟩ := three Kx.out
  obtain ⟨brc0, brc1, brc2⟩ := three Kr.out
  have fzg := fun q => Kg.out.frozen q
  replace O6 := Lib.hid (OwnR.far O6.out (p := ⟨G, 0, none⟩) (show G < Z6 by have := H6.out; omega) (.int .i64 la))
  replace Y6 := Lib.hid (show Z6 ≤ (w1.setCell ⟨G, 0, none⟩ (.int .i64 la)).heap.size by have := Y6.out; simp only [World.size_setCell] at this ⊢; omega)
  replace Kg := Lib.hid (show Blk (w1.setCell ⟨G, 0, none⟩ (.int .i64 la)) (G) 24 #[.int .i64 la, .int .i64 mo, .slice a N c] from Kg.out.set_ 0 (.int .i64 la))
  replace Kx := Lib.hid (show Blk (w1.setCell ⟨G, 0, none⟩ (.int .i64 la)) (G + 1) _ _ from Kx.out.far (p := ⟨G, 0, none⟩) (by simp; try omega) (.int .i64 la))
  replace Kr := Lib.hid (show Blk (w1.setCell ⟨G, 0, none⟩ (.int .i64 la)) (G + 1 + 1) _ _ from Kr.out.far (p := ⟨G, 0, none⟩) (by simp; try omega) (.int .i64 la))
  replace B := Lib.hid (show Below w.heap.size w (w1.setCell ⟨G, 0, none⟩ (.int .i64 la)) from B.out.setCell (p := ⟨G, 0, none⟩) (show w.heap.size ≤ G by have := HG.out; omega) (.int .i64 la))
  replace O6 := Lib.hid (OwnR.far O6.out (p := ⟨G, 1, none⟩) (show G < Z6 by have := H6.out; omega) (.int .i64 mo))
  replace Y6 := Lib.hid (show Z6 ≤ ((w1.setCell ⟨G, 0, none⟩ (.int .i64 la)).setCell ⟨G, 1, none⟩ (.int .i64 mo)).heap.size by have := Y6.out; simp only [World.size_setCell] at this ⊢; omega)
  replace Kg := Lib.hid (show Blk ((w1.setCell ⟨G, 0, none⟩ (.int .i64 la)).setCell ⟨G, 1, none⟩ (.int .i64 mo)) (G) 24 #[.int .i64 la, .int .i64 mo, .slice a N c] from Kg.out.set_ 1 (.int .i64 mo))
  replace Kx := Lib.hid (show Blk ((w1.setCell ⟨G, 0, none⟩ (.int .i64 la)).setCell ⟨G, 1, none⟩ (.int .i64 mo)) (G + 1) _ _ from Kx.out.far (p := ⟨G, 1, none⟩) (by simp; try omega) (.int .i64 mo))
  replace Kr := Lib.hid (show Blk ((w1.setCell ⟨G, 0, none⟩ (.int .i64 la)).setCell ⟨G, 1, none⟩ (.int .i64 mo)) (G + 1 + 1) _ _ from Kr.out.far (p := ⟨G, 1, none⟩) (by simp; try omega) (.int .i64 mo))
  replace B := Lib.hid (show Below w.heap.size w ((w1.setCell ⟨G, 0, none⟩ (.int .i64 la)).setCell ⟨G, 1, none⟩ (.int .i64 mo)) from B.out.setCell (p := ⟨G, 1, none⟩) (show w.heap.size ≤ G by have := HG.out; omega) (.int .i64 mo))
  replace O6 := Lib.hid (OwnR.far O6.out (p := ⟨G, 2, none⟩) (show G < Z6 by have := H6.out; omega) (.slice a6 N c6))
  replace Y6 := Lib.hid (show Z6 ≤ (((w1.setCell ⟨G, 0, none⟩ (.int .i64 la)).setCell ⟨G, 1, none⟩ (.int .i64 mo)).setCell ⟨G, 2, none⟩ (.slice a6 N c6)).heap.size by have := Y6.out; simp only [World.size_setCell] at this ⊢; omega)
  replace Kg := Lib.hid (show Blk (((w1.setCell ⟨G, 0, none⟩ (.int .i64 la)).setCell ⟨G, 1, none⟩ (.int .i64 mo)).setCell ⟨G, 2, none⟩ (.slice a6 N c6)) (G) 24 #[.int .i64 la, .int .i64 mo, .slice a6 N c6] from Kg.out.set_ 2 (.slice a6 N c6))
  replace Kx := Lib.hid (show Blk (((w1.setCell ⟨G, 0, none⟩ (.int .i64 la)).setCell ⟨G, 1, none⟩ (.int .i64 mo)).setCell ⟨G, 2, none⟩ (.slice a6 N c6)) (G + 1) _ _ from Kx.out.far (p := ⟨G, 2, none⟩) (by simp; try omega) (.slice a6 N c6))
  replace Kr := Lib.hid (show Blk (((w1.setCell ⟨G, 0, none⟩ (.int .i64 la)).setCell ⟨G, 1, none⟩ (.int .i64 mo)).setCell ⟨G, 2, none⟩ (.slice a6 N c6)) (G + 1 + 1) _ _ from Kr.out.far (p := ⟨G, 2, none⟩) (by simp; try omega) (.slice a6 N c6))
  replace B := Lib.hid (show Below w.heap.size w (((w1.setCell ⟨G, 0, none⟩ (.int .i64 la)).setCell ⟨G, 1, none⟩ (.int .i64 mo)).setCell ⟨G, 2, none⟩ (.slice a6 N c6)) from B.out.setCell (p := ⟨G, 2, none⟩) (show w.heap.size ≤ G by have := HG.out; omega) (.slice a6 N c6))
  go_upto_region 2 with (fail)
  generalize hw : (((w1.setCell ⟨G, 0, none⟩ (.int .i64 la)).setCell ⟨G, 1, none⟩ (.int .i64 mo)).setCell ⟨G, 2, none⟩ (.slice a6 N c6)) = w2 at Kg Kx Kr O6 Y6 B ⊢
  clear bgc0 bgc1 bgc2 bxc0 bxc1 bxc2 brc0 brc1 brc2 fzg
  clear hw
  obtain ⟨bgc0, bgc1, bgc2⟩ := three Kg.out
  obtain ⟨bxc0, bxc1, bxc2⟩ := three Kx.out
  obtain ⟨brc0, brc1, brc2⟩ := three Kr.out
  have fzg := fun q => Kg.out.frozen q
  have fzr := fun q => Kr.out.frozen q
  go_wp2_with fail
  refine (PL.out a6 c6 _ (own_rows O6.out)).mono ?_
  rintro e w3 ⟨rfl, hb⟩
  replace Kg := Lib.hid (Kg.out.below hb Kg.out.lt)
  replace Kx := Lib.hid (Kx.out.below hb Kx.out.lt)
  replace Kr := Lib.hid (Kr.out.below hb Kr.out.lt)
  replace B := Lib.hid (B.out.trans (hb.mono B.out.size))
  replace O6 := Lib.hid (OwnR.below O6.out hb)
  replace Y6 := Lib.hid (Nat.le_trans Y6.out hb.size)
  clear bgc0 bgc1 bgc2 bxc0 bxc1 bxc2 brc0 brc1 brc2 fzg fzr
  clear hb PL
  obtain ⟨bgc0, bgc1, bgc2⟩ := three Kg.out
  obtain ⟨bxc0, bxc1, bxc2⟩ := three Kx.out
  obtain ⟨brc0, brc1, brc2⟩ := three Kr.out
  have fzg := fun q => Kg.out.frozen q
  have fzr := fun q => Kr.out.frozen q
  have EQ := Lib.hid (show l = withL (x1, 0, 0) l from by rw [HWL.out, if_neg (by simp), if_pos (by first | rfl | trivial)])
  have LQ := Lib.hid (show (withL (x1, 0, 0) l).length = N by rw [← EQ.out]; exact HE.out)
  clear bgc0 bgc1 bgc2 bxc0 bxc1 bxc2 brc0 brc1 brc2 fzg fzr
  obtain ⟨bgc0, bgc1, bgc2⟩ := three Kg.out
  obtain ⟨bxc0, bxc1, bxc2⟩ := three Kx.out
  obtain ⟨brc0, brc1, brc2⟩ := three Kr.out
  have fzr := fun q => Kr.out.frozen q
  replace O6 := Lib.hid (OwnR.far O6.out (p := ⟨G + 1 + 1, 0, none⟩) (show G + 1 + 1 < Z6 by have := H6.out; omega) (.int .i64 la))
  replace Y6 := Lib.hid (show Z6 ≤ (w3.setCell ⟨G + 1 + 1, 0, none⟩ (.int .i64 la)).heap.size by have := Y6.out; simp only [World.size_setCell] at this ⊢; omega)
  replace Kr := Lib.hid (show Blk (w3.setCell ⟨G + 1 + 1, 0, none⟩ (.int .i64 la)) (G + 1 + 1) 24 #[.int .i64 la, .int .i64 0, .slice none 0 0] from Kr.out.set_ 0 (.int .i64 la))
  replace Kg := Lib.hid (show Blk (w3.setCell ⟨G + 1 + 1, 0, none⟩ (.int .i64 la)) (G) _ _ from Kg.out.far (p := ⟨G + 1 + 1, 0, none⟩) (by simp; try omega) (.int .i64 la))
  replace Kx := Lib.hid (show Blk (w3.setCell ⟨G + 1 + 1, 0, none⟩ (.int .i64 la)) (G + 1) _ _ from Kx.out.far (p := ⟨G + 1 + 1, 0, none⟩) (by simp; try omega) (.int .i64 la))
  replace B := Lib.hid (show Below w.heap.size w (w3.setCell ⟨G + 1 + 1, 0, none⟩ (.int .i64 la)) from B.out.setCell (p := ⟨G + 1 + 1, 0, none⟩) (show w.heap.size ≤ G + 1 + 1 by have := HG.out; omega) (.int .i64 la))
  replace O6 := Lib.hid (OwnR.far O6.out (p := ⟨G + 1 + 1, 1, none⟩) (show G + 1 + 1 < Z6 by have := H6.out; omega) (.int .i64 mo))
  replace Y6 := Lib.hid (show Z6 ≤ ((w3.setCell ⟨G + 1 + 1, 0, none⟩ (.int .i64 la)).setCell ⟨G + 1 + 1, 1, none⟩ (.int .i64 mo)).heap.size by have := Y6.out; simp only [World.size_setCell] at this ⊢; omega)
  replace Kr := Lib.hid (show Blk ((w3.setCell ⟨G + 1 + 1, 0, none⟩ (.int .i64 la)).setCell ⟨G + 1 + 1, 1, none⟩ (.int .i64 mo)) (G + 1 + 1) 24 #[.int .i64 la, .int .i64 mo, .slice none 0 0] from Kr.out.set_ 1 (.int .i64 mo))
  replace Kg := Lib.hid (show Blk ((w3.setCell ⟨G + 1 + 1, 0, none⟩ (.int .i64 la)).setCell ⟨G + 1 + 1, 1, none⟩ (.int .i64 mo)) (G) _ _ from Kg.out.far (p := ⟨G + 1 + 1, 1, none⟩) (by simp; try omega) (.int .i64 mo))
  replace Kx := Lib.hid (show Blk ((w3.setCell ⟨G + 1 + 1, 0, none⟩ (.int .i64 la)).setCell ⟨G + 1 + 1, 1, none⟩ (.int .i64 mo)) (G + 1) _ _ from Kx.out.far (p := ⟨G + 1 + 1, 1, none⟩) (by simp; try omega) (.int .i64 mo))
  replace B := Lib.hid (show Below w.heap.size w ((w3.setCell ⟨G + 1 + 1, 0, none⟩ (.int .i64 la)).setCell ⟨G + 1 + 1, 1, none⟩ (.int .i64 mo)) from B.out.setCell (p := ⟨G + 1 + 1, 1, none⟩) (show w.heap.size ≤ G + 1 + 1 by have := HG.out; omega) (.int .i64 mo))
  replace O6 := Lib.hid (OwnR.far O6.out (p := ⟨G + 1 + 1, 2, none⟩) (show G + 1 + 1 < Z6 by have := H6.out; omega) (.slice a6 N c6))
  replace Y6 := Lib.hid (show Z6 ≤ (((w3.setCell ⟨G + 1 + 1, 0, none⟩ (.int .i64 la)).setCell ⟨G + 1 + 1, 1, none⟩ (.int .i64 mo)).setCell ⟨G + 1 + 1, 2, none⟩ (.slice a6 N c6)).heap.size by have := Y6.out; simp only [World.size_setCell] at this ⊢; omega)
  replace Kr := Lib.hid (show Blk (((w3.setCell ⟨G + 1 + 1, 0, none⟩ (.int .i64 la)).setCell ⟨G + 1 + 1, 1, none⟩ (.int .i64 mo)).setCell ⟨G + 1 + 1, 2, none⟩ (.slice a6 N c6)) (G + 1 + 1) 24 #[.int .i64 la, .int .i64 mo, .slice a6 N c6] from Kr.out.set_ 2 (.slice a6 N c6))
  replace Kg := Lib.hid (show Blk (((w3.setCell ⟨G + 1 + 1, 0, none⟩ (.int .i64 la)).setCell ⟨G + 1 + 1, 1, none⟩ (.int .i64 mo)).setCell ⟨G + 1 + 1, 2, none⟩ (.slice a6 N c6)) (G) _ _ from Kg.out.far (p := ⟨G + 1 + 1, 2, none⟩) (by simp; try omega) (.slice a6 N c6))
  replace Kx := Lib.hid (show Blk (((w3.setCell ⟨G + 1 + 1, 0, none⟩ (.int .i64 la)).setCell ⟨G + 1 + 1, 1, none⟩ (.int .i64 mo)).setCell ⟨G + 1 + 1, 2, none⟩ (.slice a6 N c6)) (G + 1) _ _ from Kx.out.far (p := ⟨G + 1 + 1, 2, none⟩) (by simp; try omega) (.slice a6 N c6))
  replace B := Lib.hid (show Below w.heap.size w (((w3.setCell ⟨G + 1 + 1, 0, none⟩ (.int .i64 la)).setCell ⟨G + 1 + 1, 1, none⟩ (.int .i64 mo)).setCell ⟨G + 1 + 1, 2, none⟩ (.slice a6 N c6)) from B.out.setCell (p := ⟨G + 1 + 1, 2, none⟩) (show w.heap.size ≤ G + 1 + 1 by have := HG.out; omega) (.slice a6 N c6))
  go_wp2
  generalize hw : (((w3.setCell ⟨G + 1 + 1, 0, none⟩ (.int .i64 la)).setCell ⟨G + 1 + 1, 1, none⟩ (.int .i64 mo)).setCell ⟨G + 1 + 1, 2, none⟩ (.slice a6 N c6)) = w4 at Kg Kx Kr O6 Y6 B ⊢
  clear bgc0 bgc1 bgc2 bxc0 bxc1 bxc2 brc0 brc1 brc2 fzr
  clear hw
  obtain ⟨d0, d1, d2⟩ := three Kr.out
  refine bodyPost_ret (by simp [results, Tryd.results37, go_sem, d0, d1, d2]; try rfl) rfl ?_
  refine ⟨⟨a6, c6, by rw [LQ.out], ?_, fun p hp => ?_⟩, B.out⟩
  · rw [← EQ.out]; exact own_rows O6.out
  · have := OwnR.block O6.out p hp; have := H6.out; have := HG.out; omega
set_option maxRecDepth 100000 in
set_option maxHeartbeats 4000000 in
theorem with_ins (la mo : Int) (a : Option Addr) (c : Nat) (l : List Gr) (x : Gr) (w : World) (hp : GrA w a l) (ord : OrdG l) (hm : l.length ≤ 10000) (hh : hasG x.1 l = false) (h2 : ¬ x = (x.1, 0, 0)) :
    Calls Tryd.prog 37 #[.agg #[.int .i64 la, .int .i64 mo, .slice a l.length c], .agg (encG x).toArray] w fun e w' => (∃ a' c', e = .returned (.agg #[.int .i64 la, .int .i64 mo, .slice a' (withL x l).length c']) ∧ GrA w' a' (withL x l) ∧ ∀ p, a' = some p → w.heap.size ≤ p.block) ∧ Below w.heap.size w w' := by
  have HP := Lib.hid hp
  have CL := Lib.hid (fun (X : World) (h : GrA X a l) => copied_any la mo a c l X h (by omega))
  have PL := Lib.hid (fun (a6 : Option Addr) (c6 : Nat) (X : World) (h : GrA X a6 l) => place_any la mo a6 c6 l x.1 X h ord (by omega))
  have HWL := Lib.hid (show withL x l = if hasG x.1 l = true then l.set (posG x.1 l) x else if x = (x.1, 0, 0) then l else insL l (posG x.1 l) x from rfl)
  have HI := Lib.hid (show posG x.1 l ≤ l.length ∧ (hasG x.1 l = true → posG x.1 l < l.length) from ⟨posG_le _ _, fun q => (has_yes q).1⟩)
  rw [hh] at PL HWL HI
  obtain ⟨i, hi⟩ : ∃ i, posG x.1 l = i := ⟨_, rfl⟩
  rw [hi] at PL HWL HI
  obtain ⟨N, hN⟩ : ∃ N, l.length = N := ⟨_, rfl⟩
  have HE := Lib.hid hN
  simp only [hN] at PL CL HI
  rw [hN] at hm ⊢
  obtain ⟨x1, x2, x3⟩ := x
  have H2 := Lib.hid h2
  have heq : ∀ W : World, (binOp .neq 88 (.agg #[.int .i64 x1, .int .i64 x2, .int .i64 x3]) (.agg #[.int .i64 x1, .int .i64 0, .int .i64 0])).run Tryd.prog W = .ok (.bool true) W := fun W => eq_grant_no x1 x2 x3 W (fun q => h2 (by rw [q.1, q.2]))
  simp only [encG] at PL HWL ⊢
  have HMx := Lib.hid hm
  clear hp hN ord hh hi hm h2
  go_enter Tryd.func37, Tryd.ntmps37
  obtain ⟨G, hG⟩ : ∃ G, w.heap.size = G := ⟨_, rfl⟩
  have HG := Lib.hid hG
  obtain ⟨w0, hw0, Kg, Kx, Kr, B⟩ : ∃ X, (((w.alloc (.cells #[.int .i64 la, .int .i64 mo, .slice a N c] 24)).alloc (.cells #[.int .i64 x1, .int .i64 x2, .int .i64 x3] 88)).alloc (.cells #[.int .i64 0, .int .i64 0, .slice none 0 0] 24)) = X ∧ Hid (Blk X (G) 24 #[.int .i64 la, .int .i64 mo, .slice a N c]) ∧ Hid (Blk X (G + 1) 88 #[.int .i64 x1, .int .i64 x2, .int .i64 x3]) ∧ Hid (Blk X (G + 1 + 1) 24 #[.int .i64 0, .int .i64 0, .slice none 0 0]) ∧ Hid (Below w.heap.size w X) := ⟨_, rfl, Lib.hid (((Blk.new' _ _ _ _ hG rfl).alloc _).alloc _), Lib.hid ((Blk.new' _ _ _ _ (by rw [World.size_alloc, hG]) rfl).alloc _), Lib.hid (Blk.new' _ _ _ _ (by rw [World.size_alloc, World.size_alloc, hG]) rfl), Lib.hid (by (repeat' (first | (with_reducible exact Below.refl _ _) | (with_reducible assumption) | (with_reducible refine Below.alloc ?_ ?_ _) | (with_reducible refine Below.drew ?_) | (with_reducible refine below_dn ?_) | (with_reducible refine Below.setCell ?_ ?_ _) | (with_reducible exact Nat.le_refl _) | omega | (simp only [World.size_alloc, World.size_setCell, World.size_drew]; omega) | (simp; omega) | (simp; done))))⟩
  go_upto_region 1 with (fail)
  try rw [hG]
  try rw [hw0]
  clear hw0 hG
  obtain ⟨bgc0, bgc1, bgc2⟩ := three Kg.out
  obtain ⟨bxc0, bxc1, bxc2⟩ := three Kx.out
  obtain ⟨brc0, brc1, brc2⟩ := three Kr.out
  have fzg := fun q => Kg.out.frozen q
  have fzx := fun q => Kx.out.frozen q
  have fzr := fun q => Kr.out.frozen q
  have HW6 := Lib.hid (show G + 3 ≤ w0.heap.size by have := Kr.out.lt; omega)
  go_wp2_with fail
  refine (CL.out _ (HP.out.mono B.out)).mono ?_
  rintro e w1 ⟨⟨a6, c6, Z6, rfl, ho, hz1, hz2⟩, hb⟩
  have H6 := Lib.hid (show G + 3 ≤ Z6 from Nat.le_trans HW6.out hz1)
  have Y6 := Lib.hid hz2
  have O6 := Lib.hid ho
  replace Kg := Lib.hid (Kg.out.below hb Kg.out.lt)
  replace Kx := Lib.hid (Kx.out.below hb Kx.out.lt)
  replace Kr := Lib.hid (Kr.out.below hb Kr.out.lt)
  replace B := Lib.hid (B.out.trans (hb.mono B.out.size))
  clear bgc0 bgc1 bgc2 bxc0 bxc1 bxc2 brc0 brc1 brc2 fzg fzx fzr
  clear hb ho CL HW6 hz1 hz2
  obtain ⟨bgc0, bgc1, bgc2⟩ := three Kg.out
  obtain ⟨bxc0, bxc1, bxc2⟩ := three Kx.out
  obtain ⟨brc0, brc1, brc2⟩ := three Kr.out
  have fzg := fun q => Kg.out.frozen q
  have fzr := fun q => Kr.out.frozen q
  clear bgc0 bgc1 bgc2 bxc0 bxc1 bxc2 brc0 brc1 brc2 fzg fzr
  obtain ⟨bgc0, bgc1, bgc2⟩ := three Kg.out
  obtain ⟨bxc0, bxc1, bxc2⟩ := three Kx.out
  obtain ⟨brc0, brc1, brc2⟩ := three Kr.out
  have fzg := fun q => Kg.out.frozen q
  replace O6 := Lib.hid (OwnR.far O6.out (p := ⟨G, 0, none⟩) (show G < Z6 by have := H6.out; omega) (.int .i64 la))
  replace Y6 := Lib.hid (show Z6 ≤ (w1.setCell ⟨G, 0, none⟩ (.int .i64 la)).heap.size by have := Y6.out; simp only [World.size_setCell] at this ⊢; omega)
  replace Kg := Lib.hid (show Blk (w1.setCell ⟨G, 0, none⟩ (.int .i64 la)) (G) 24 #[.int .i64 la, .int .i64 mo, .slice a N c] from Kg.out.set_ 0 (.int .i64 la))
  replace Kx := Lib.hid (show Blk (w1.setCell ⟨G, 0, none⟩ (.int .i64 la)) (G + 1) _ _ from Kx.out.far (p := ⟨G, 0, none⟩) (by simp; try omega) (.int .i64 la))
  replace Kr := Lib.hid (show Blk (w1.setCell ⟨G, 0, none⟩ (.int .i64 la)) (G + 1 + 1) _ _ from Kr.out.far (p := ⟨G, 0, none⟩) (by simp; try omega) (.int .i64 la))
  replace B := Lib.hid (show Below w.heap.size w (w1.setCell ⟨G, 0, none⟩ (.int .i64 la)) from B.out.setCell (p := ⟨G, 0, none⟩) (show w.heap.size ≤ G by have := HG.out; omega) (.int .i64 la))
  replace O6 := Lib.hid (OwnR.far O6.out (p := ⟨G, 1, none⟩) (show G < Z6 by have := H6.out; omega) (.int .i64 mo))
  replace Y6 := Lib.hid (show Z6 ≤ ((w1.setCell ⟨G, 0, none⟩ (.int .i64 la)).setCell ⟨G, 1, none⟩ (.int .i64 mo)).heap.size by have := Y6.out; simp only [World.size_setCell] at this ⊢; omega)
  replace Kg := Lib.hid (show Blk ((w1.setCell ⟨G, 0, none⟩ (.int .i64 la)).setCell ⟨G, 1, none⟩ (.int .i64 mo)) (G) 24 #[.int .i64 la, .int .i64 mo, .slice a N c] from Kg.out.set_ 1 (.int .i64 mo))
  replace Kx := Lib.hid (show Blk ((w1.setCell ⟨G, 0, none⟩ (.int .i64 la)).setCell ⟨G, 1, none⟩ (.int .i64 mo)) (G + 1) _ _ from Kx.out.far (p := ⟨G, 1, none⟩) (by simp; try omega) (.int .i64 mo))
  replace Kr := Lib.hid (show Blk ((w1.setCell ⟨G, 0, none⟩ (.int .i64 la)).setCell ⟨G, 1, none⟩ (.int .i64 mo)) (G + 1 + 1) _ _ from Kr.out.far (p := ⟨G, 1, none⟩) (by simp; try omega) (.int .i64 mo))
  replace B := Lib.hid (show Below w.heap.size w ((w1.setCell ⟨G, 0, none⟩ (.int .i64 la)).setCell ⟨G, 1, none⟩ (.int .i64 mo)) from B.out.setCell (p := ⟨G, 1, none⟩) (show w.heap.size ≤ G by have := HG.out; omega) (.int .i64 mo))
  replace O6 := Lib.hid (OwnR.far O6.out (p := ⟨G, 2, none⟩) (show G < Z6 by have := H6.out; omega) (.slice a6 N c6))
  replace Y6 := Lib.hid (show Z6 ≤ (((w1.setCell ⟨G, 0, none⟩ (.int .i64 la)).setCell ⟨G, 1, none⟩ (.int .i64 mo)).setCell ⟨G, 2, none⟩ (.slice a6 N c6)).heap.size by have := Y6.out; simp only [World.size_setCell] at this ⊢; omega)
  replace Kg := Lib.hid (show Blk (((w1.setCell ⟨G, 0, none⟩ (.int .i64 la)).setCell ⟨G, 1, none⟩ (.int .i64 mo)).setCell ⟨G, 2, none⟩ (.slice a6 N c6)) (G) 24 #[.int .i64 la, .int .i64 mo, .slice a6 N c6] from Kg.out.set_ 2 (.slice a6 N c6))
  replace Kx := Lib.hid (show Blk (((w1.setCell ⟨G, 0, none⟩ (.int .i64 la)).setCell ⟨G, 1, none⟩ (.int .i64 mo)).setCell ⟨G, 2, none⟩ (.slice a6 N c6)) (G + 1) _ _ from Kx.out.far (p := ⟨G, 2, none⟩) (by simp; try omega) (.slice a6 N c6))
  replace Kr := Lib.hid (show Blk (((w1.setCell ⟨G, 0, none⟩ (.int .i64 la)).setCell ⟨G, 1, none⟩ (.int .i64 mo)).setCell ⟨G, 2, none⟩ (.slice a6 N c6)) (G + 1 + 1) _ _ from Kr.out.far (p := ⟨G, 2, none⟩) (by simp; try omega) (.slice a6 N c6))
  replace B := Lib.hid (show Below w.heap.size w (((w1.setCell ⟨G, 0, none⟩ (.int .i64 la)).setCell ⟨G, 1, none⟩ (.int .i64 mo)).setCell ⟨G, 2, none⟩ (.slice a6 N c6)) from B.out.setCell (p := ⟨G, 2, none⟩) (show w.heap.size ≤ G by have := HG.out; omega) (.slice a6 N c6))
  go_upto_region 2 with (fail)
  generalize hw : (((w1.setCell ⟨G, 0, none⟩ (.int .i64 la)).setCell ⟨G, 1, none⟩ (.int .i64 mo)).setCell ⟨G, 2, none⟩ (.slice a6 N c6)) = w2 at Kg Kx Kr O6 Y6 B ⊢
  clear bgc0 bgc1 bgc2 bxc0 bxc1 bxc2 brc0 brc1 brc2 fzg
  clear hw
  obtain ⟨bgc0, bgc1, bgc2⟩ := three Kg.out
  obtain ⟨bxc0, bxc1, bxc2⟩ := three Kx.out
  obtain ⟨brc0, brc1, brc2⟩ := three Kr.out
  have fzg := fun q => Kg.out.frozen q
  have fzr := fun q => Kr.out.frozen q
  go_wp2_with fail
  refine (PL.out a6 c6 _ (own_rows O6.out)).mono ?_
  rintro e w3 ⟨rfl, hb⟩
  replace Kg := Lib.hid (Kg.out.below hb Kg.out.lt)
  replace Kx := Lib.hid (Kx.out.below hb Kx.out.lt)
  replace Kr := Lib.hid (Kr.out.below hb Kr.out.lt)
  replace B := Lib.hid (B.out.trans (hb.mono B.out.size))
  replace O6 := Lib.hid (OwnR.below O6.out hb)
  replace Y6 := Lib.hid (Nat.le_trans Y6.out hb.size)
  clear bgc0 bgc1 bgc2 bxc0 bxc1 bxc2 brc0 brc1 brc2 fzg fzr
  clear hb PL
  obtain ⟨bgc0, bgc1, bgc2⟩ := three Kg.out
  obtain ⟨bxc0, bxc1, bxc2⟩ := three Kx.out
  obtain ⟨brc0, brc1, brc2⟩ := three Kr.out
  have fzg := fun q => Kg.out.frozen q
  have fzr := fun q => Kr.out.frozen q
  have IN := Lib.hid (fun (X : World) (vb : Nat) (o : OwnA X Z6 (.slice a6 N c6) l) (hB : Z6 ≤ X.heap.size) (hx : Blk X vb 88 (encG (x1, x2, x3)).toArray) (hvb : ∀ k, (Value.slice a6 N c6).ownBlock = some k → vb ≠ k) => ins_any (.slice a6 N c6) l i (x1, x2, x3) vb Z6 X o (by rw [HE.out]; exact HI.out.1) (by rw [HE.out]; have := HMx.out; omega) hB hx hvb)
  have OLT := Lib.hid (fun k hk => (own_lt O6.out k hk).2)
  go_wp2_with fail
  refine (IN.out _ w3.heap.size (OwnR.alloc O6.out _) (by have := Y6.out; simp; omega) (Blk.new w3 _ _) (fun k hk => by have := OLT.out k hk; omega)).mono ?_
  rintro e w4 ⟨v9, rfl, ho9, hb9⟩
  have zz := H6.out
  have yy := Y6.out
  replace Kg := Lib.hid ((Kg.out.alloc (.cells #[.int .i64 x1, .int .i64 x2, .int .i64 x3] 88)).below hb9 (by omega))
  replace Kx := Lib.hid ((Kx.out.alloc (.cells #[.int .i64 x1, .int .i64 x2, .int .i64 x3] 88)).below hb9 (by omega))
  replace Kr := Lib.hid ((Kr.out.alloc (.cells #[.int .i64 x1, .int .i64 x2, .int .i64 x3] 88)).below hb9 (by omega))
  replace B := Lib.hid ((B.out.alloc B.out.size (.cells #[.int .i64 x1, .int .i64 x2, .int .i64 x3] 88)).trans (hb9.mono (by have := HG.out; omega)))
  replace Y6 := Lib.hid (show Z6 ≤ w4.heap.size by have := hb9.size; simp at this; omega)
  have O8 := Lib.hid ho9
  clear zz yy hb9 ho9 IN O6 OLT
  clear bgc0 bgc1 bgc2 bxc0 bxc1 bxc2 brc0 brc1 brc2 fzg fzr
  obtain ⟨a7, c7, rfl, -, -⟩ := OwnR.view encG_len O8.out
  obtain ⟨l7, hl7⟩ : ∃ l7, insL l i (x1, x2, x3) = l7 := ⟨_, rfl⟩
  rw [hl7] at O8
  have EQ := Lib.hid (show l7 = withL (x1, x2, x3) l from by rw [HWL.out, if_neg (by simp), if_neg (by exact H2.out), hl7])
  have LQ := Lib.hid (show (withL (x1, x2, x3) l).length = l7.length by rw [← EQ.out])
  have O6 := O8
  clear O8
  obtain ⟨bgc0, bgc1, bgc2⟩ := three Kg.out
  obtain ⟨bxc0, bxc1, bxc2⟩ := three Kx.out
  obtain ⟨brc0, brc1, brc2⟩ := three Kr.out
  have fzg := fun q => Kg.out.frozen q
  have fzr := fun q => Kr.out.frozen q
  obtain ⟨N7, hN7⟩ : ∃ n, l7.length = n := ⟨_, rfl⟩
  rw [hN7] at LQ O6
  try rw [hl7, hN7]
  clear hl7 hN7
  clear bgc0 bgc1 bgc2 bxc0 bxc1 bxc2 brc0 brc1 brc2 fzg fzr
  obtain ⟨bgc0, bgc1, bgc2⟩ := three Kg.out
  obtain ⟨bxc0, bxc1, bxc2⟩ := three Kx.out
  obtain ⟨brc0, brc1, brc2⟩ := three Kr.out
  have fzg := fun q => Kg.out.frozen q
  replace O6 := Lib.hid (OwnR.far O6.out (p := ⟨G, 2, none⟩) (show G < Z6 by have := H6.out; omega) (.slice a7 N7 c7))
  replace Y6 := Lib.hid (show Z6 ≤ (w4.setCell ⟨G, 2, none⟩ (.slice a7 N7 c7)).heap.size by have := Y6.out; simp only [World.size_setCell] at this ⊢; omega)
  replace Kg := Lib.hid (show Blk (w4.setCell ⟨G, 2, none⟩ (.slice a7 N7 c7)) (G) 24 #[.int .i64 la, .int .i64 mo, .slice a7 N7 c7] from Kg.out.set_ 2 (.slice a7 N7 c7))
  replace Kx := Lib.hid (show Blk (w4.setCell ⟨G, 2, none⟩ (.slice a7 N7 c7)) (G + 1) _ _ from Kx.out.far (p := ⟨G, 2, none⟩) (by simp; try omega) (.slice a7 N7 c7))
  replace Kr := Lib.hid (show Blk (w4.setCell ⟨G, 2, none⟩ (.slice a7 N7 c7)) (G + 1 + 1) _ _ from Kr.out.far (p := ⟨G, 2, none⟩) (by simp; try omega) (.slice a7 N7 c7))
  replace B := Lib.hid (show Below w.heap.size w (w4.setCell ⟨G, 2, none⟩ (.slice a7 N7 c7)) from B.out.setCell (p := ⟨G, 2, none⟩) (show w.heap.size ≤ G by have := HG.out; omega) (.slice a7 N7 c7))
  go_upto_region 7 with (fail)
  generalize hw : (w4.setCell ⟨G, 2, none⟩ (.slice a7 N7 c7)) = w5 at Kg Kx Kr O6 Y6 B ⊢
  clear bgc0 bgc1 bgc2 bxc0 bxc1 bxc2 brc0 brc1 brc2 fzg
  clear hw
  obtain ⟨bgc0, bgc1, bgc2⟩ := three Kg.out
  obtain ⟨bxc0, bxc1, bxc2⟩ := three Kx.out
  obtain ⟨brc0, brc1, brc2⟩ := three Kr.out
  have fzg := fun q => Kg.out.frozen q
  have fzr := fun q => Kr.out.frozen q
  clear bgc0 bgc1 bgc2 bxc0 bxc1 bxc2 brc0 brc1 brc2 fzg fzr
  obtain ⟨bgc0, bgc1, bgc2⟩ := three Kg.out
  obtain ⟨bxc0, bxc1, bxc2⟩ := three Kx.out
  obtain ⟨brc0, brc1, brc2⟩ := three Kr.out
  have fzr := fun q => Kr.out.frozen q
  replace O6 := Lib.hid (OwnR.far O6.out (p := ⟨G + 1 + 1, 0, none⟩) (show G + 1 + 1 < Z6 by have := H6.out; omega) (.int .i64 la))
  replace Y6 := Lib.hid (show Z6 ≤ (w5.setCell ⟨G + 1 + 1, 0, none⟩ (.int .i64 la)).heap.size by have := Y6.out; simp only [World.size_setCell] at this ⊢; omega)
  replace Kr := Lib.hid (show Blk (w5.setCell ⟨G + 1 + 1, 0, none⟩ (.int .i64 la)) (G + 1 + 1) 24 #[.int .i64 la, .int .i64 0, .slice none 0 0] from Kr.out.set_ 0 (.int .i64 la))
  replace Kg := Lib.hid (show Blk (w5.setCell ⟨G + 1 + 1, 0, none⟩ (.int .i64 la)) (G) _ _ from Kg.out.far (p := ⟨G + 1 + 1, 0, none⟩) (by simp; try omega) (.int .i64 la))
  replace Kx := Lib.hid (show Blk (w5.setCell ⟨G + 1 + 1, 0, none⟩ (.int .i64 la)) (G + 1) _ _ from Kx.out.far (p := ⟨G + 1 + 1, 0, none⟩) (by simp; try omega) (.int .i64 la))
  replace B := Lib.hid (show Below w.heap.size w (w5.setCell ⟨G + 1 + 1, 0, none⟩ (.int .i64 la)) from B.out.setCell (p := ⟨G + 1 + 1, 0, none⟩) (show w.heap.size ≤ G + 1 + 1 by have := HG.out; omega) (.int .i64 la))
  replace O6 := Lib.hid (OwnR.far O6.out (p := ⟨G + 1 + 1, 1, none⟩) (show G + 1 + 1 < Z6 by have := H6.out; omega) (.int .i64 mo))
  replace Y6 := Lib.hid (show Z6 ≤ ((w5.setCell ⟨G + 1 + 1, 0, none⟩ (.int .i64 la)).setCell ⟨G + 1 + 1, 1, none⟩ (.int .i64 mo)).heap.size by have := Y6.out; simp only [World.size_setCell] at this ⊢; omega)
  replace Kr := Lib.hid (show Blk ((w5.setCell ⟨G + 1 + 1, 0, none⟩ (.int .i64 la)).setCell ⟨G + 1 + 1, 1, none⟩ (.int .i64 mo)) (G + 1 + 1) 24 #[.int .i64 la, .int .i64 mo, .slice none 0 0] from Kr.out.set_ 1 (.int .i64 mo))
  replace Kg := Lib.hid (show Blk ((w5.setCell ⟨G + 1 + 1, 0, none⟩ (.int .i64 la)).setCell ⟨G + 1 + 1, 1, none⟩ (.int .i64 mo)) (G) _ _ from Kg.out.far (p := ⟨G + 1 + 1, 1, none⟩) (by simp; try omega) (.int .i64 mo))
  replace Kx := Lib.hid (show Blk ((w5.setCell ⟨G + 1 + 1, 0, none⟩ (.int .i64 la)).setCell ⟨G + 1 + 1, 1, none⟩ (.int .i64 mo)) (G + 1) _ _ from Kx.out.far (p := ⟨G + 1 + 1, 1, none⟩) (by simp; try omega) (.int .i64 mo))
  replace B := Lib.hid (show Below w.heap.size w ((w5.setCell ⟨G + 1 + 1, 0, none⟩ (.int .i64 la)).setCell ⟨G + 1 + 1, 1, none⟩ (.int .i64 mo)) from B.out.setCell (p := ⟨G + 1 + 1, 1, none⟩) (show w.heap.size ≤ G + 1 + 1 by have := HG.out; omega) (.int .i64 mo))
  replace O6 := Lib.hid (OwnR.far O6.out (p := ⟨G + 1 + 1, 2, none⟩) (show G + 1 + 1 < Z6 by have := H6.out; omega) (.slice a7 N7 c7))
  replace Y6 := Lib.hid (show Z6 ≤ (((w5.setCell ⟨G + 1 + 1, 0, none⟩ (.int .i64 la)).setCell ⟨G + 1 + 1, 1, none⟩ (.int .i64 mo)).setCell ⟨G + 1 + 1, 2, none⟩ (.slice a7 N7 c7)).heap.size by have := Y6.out; simp only [World.size_setCell] at this ⊢; omega)
  replace Kr := Lib.hid (show Blk (((w5.setCell ⟨G + 1 + 1, 0, none⟩ (.int .i64 la)).setCell ⟨G + 1 + 1, 1, none⟩ (.int .i64 mo)).setCell ⟨G + 1 + 1, 2, none⟩ (.slice a7 N7 c7)) (G + 1 + 1) 24 #[.int .i64 la, .int .i64 mo, .slice a7 N7 c7] from Kr.out.set_ 2 (.slice a7 N7 c7))
  replace Kg := Lib.hid (show Blk (((w5.setCell ⟨G + 1 + 1, 0, none⟩ (.int .i64 la)).setCell ⟨G + 1 + 1, 1, none⟩ (.int .i64 mo)).setCell ⟨G + 1 + 1, 2, none⟩ (.slice a7 N7 c7)) (G) _ _ from Kg.out.far (p := ⟨G + 1 + 1, 2, none⟩) (by simp; try omega) (.slice a7 N7 c7))
  replace Kx := Lib.hid (show Blk (((w5.setCell ⟨G + 1 + 1, 0, none⟩ (.int .i64 la)).setCell ⟨G + 1 + 1, 1, none⟩ (.int .i64 mo)).setCell ⟨G + 1 + 1, 2, none⟩ (.slice a7 N7 c7)) (G + 1) _ _ from Kx.out.far (p := ⟨G + 1 + 1, 2, none⟩) (by simp; try omega) (.slice a7 N7 c7))
  replace B := Lib.hid (show Below w.heap.size w (((w5.setCell ⟨G + 1 + 1, 0, none⟩ (.int .i64 la)).setCell ⟨G + 1 + 1, 1, none⟩ (.int .i64 mo)).setCell ⟨G + 1 + 1, 2, none⟩ (.slice a7 N7 c7)) from B.out.setCell (p := ⟨G + 1 + 1, 2, none⟩) (show w.heap.size ≤ G + 1 + 1 by have := HG.out; omega) (.slice a7 N7 c7))
  go_wp2
  generalize hw : (((w5.setCell ⟨G + 1 + 1, 0, none⟩ (.int .i64 la)).setCell ⟨G + 1 + 1, 1, none⟩ (.int .i64 mo)).setCell ⟨G + 1 + 1, 2, none⟩ (.slice a7 N7 c7)) = w6 at Kg Kx Kr O6 Y6 B ⊢
  clear bgc0 bgc1 bgc2 bxc0 bxc1 bxc2 brc0 brc1 brc2 fzr
  clear hw
  obtain ⟨d0, d1, d2⟩ := three Kr.out
  refine bodyPost_ret (by simp [results, Tryd.results37, go_sem, d0, d1, d2]; try rfl) rfl ?_
  refine ⟨⟨a7, c7, by rw [LQ.out], ?_, fun p hp => ?_⟩, B.out⟩
  · rw [← EQ.out]; exact own_rows O6.out
  · have := OwnR.block O6.out p hp; have := H6.out; have := HG.out; omega
theorem with_any (la mo : Int) (a : Option Addr) (c : Nat) (l : List Gr) (x : Gr) (w : World) (hp : GrA w a l) (ord : OrdG l) (hm : l.length ≤ 10000) :
    Calls Tryd.prog 37 #[.agg #[.int .i64 la, .int .i64 mo, .slice a l.length c], .agg (encG x).toArray] w fun e w' => (∃ a' c', e = .returned (.agg #[.int .i64 la, .int .i64 mo, .slice a' (withL x l).length c']) ∧ GrA w' a' (withL x l) ∧ ∀ p, a' = some p → w.heap.size ≤ p.block) ∧ Below w.heap.size w w' := by
  cases hh : hasG x.1 l with
  | true => exact with_found la mo a c l x w hp ord hm hh
  | false =>
    by_cases h2 : x = (x.1, 0, 0)
    · exact with_empty la mo a c l x w hp ord hm hh h2
    · exact with_ins la mo a c l x w hp ord hm hh h2
end Le
end Go.Proofs.YteblnmhaohbkkaaDoor
