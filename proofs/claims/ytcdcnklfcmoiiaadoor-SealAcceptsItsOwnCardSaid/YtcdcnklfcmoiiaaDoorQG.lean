/- Contracts: Find of both. -/
import Derived.Test.YtcdcnklfcmoiiaaDoorQF
import Derived.Deep.Cut
import Derived.Deep.CutRange
namespace Go.Proofs.YtcdcnklfcmoiiaaDoor
set_option linter.unusedVariables false
set_option linter.unusedSimpArgs false
open Go.RowKit Go.Sort
theorem twob {X : World} {g : Nat} {t : TypeId} {v0 v1 : Value} (h : Blk X g t #[v0, v1]) : X.cell? ⟨g, 0, none⟩ = some v0 ∧ X.cell? ⟨g, 1, none⟩ = some v1 := ⟨h.cell 0, h.cell 1⟩
theorem three {X : World} {g : Nat} {t : TypeId} {v0 v1 v2 : Value} (h : Blk X g t #[v0, v1, v2]) : X.cell? ⟨g, 0, none⟩ = some v0 ∧ X.cell? ⟨g, 1, none⟩ = some v1 ∧ X.cell? ⟨g, 2, none⟩ = some v2 := ⟨h.cell 0, h.cell 1, h.cell 2⟩
theorem six {X : World} {g : Nat} {t : TypeId} {v0 v1 v2 v3 v4 v5 : Value} (h : Blk X g t #[v0, v1, v2, v3, v4, v5]) : X.cell? ⟨g, 0, none⟩ = some v0 ∧ X.cell? ⟨g, 1, none⟩ = some v1 ∧ X.cell? ⟨g, 2, none⟩ = some v2 ∧ X.cell? ⟨g, 3, none⟩ = some v3 ∧ X.cell? ⟨g, 4, none⟩ = some v4 ∧ X.cell? ⟨g, 5, none⟩ = some v5 := ⟨h.cell 0, h.cell 1, h.cell 2, h.cell 3, h.cell 4, h.cell 5⟩
theorem key_mem {l : List Rw} (ord : OrdR l) {i : Nat} (hi : i < l.length) : hasC (cR (l.getD i r0).1 (l.getD i r0).2.1) l = true ∧ posC (cR (l.getD i r0).1 (l.getD i r0).2.1) l = i := by
  have e : posC (cR (l.getD i r0).1 (l.getD i r0).2.1) l = i := posC_is _ _ _ (by omega) (fun j hj => by
    have := ord.lt hj hi
    rw [cR_neg]; exact this) (fun _ => by rw [cR_neg]; omega)
  exact ⟨(hasC_iff _ _).2 (by rw [e]; exact ⟨hi, cR_zero.2 ⟨rfl, rfl⟩⟩), e⟩
theorem find_yes {l : List Rw} {p s : Int} (h : hasC (cR p s) l = true) : findL l p s = l.getD (posC (cR p s) l) r0 ∧ findE l p s = 0 := by unfold findL findE; rw [if_pos h, if_pos h]; exact ⟨rfl, rfl⟩
theorem find_no {l : List Rw} {p s : Int} (h : ¬ hasC (cR p s) l = true) : findL l p s = r0 ∧ findE l p s = 5 := by unfold findL findE; rw [if_neg h, if_neg h]; exact ⟨rfl, rfl⟩
theorem find_at {l : List Rw} (ord : OrdR l) {p s : Int} {i : Nat} (hi : i < l.length) (h1 : (l.getD i r0).1 = p) (h2 : (l.getD i r0).2.1 = s) : findL l p s = l.getD i r0 ∧ findE l p s = 0 := by
  obtain ⟨a, b⟩ := key_mem ord hi
  rw [h1, h2] at a b
  have := find_yes a
  rwa [b] at this
theorem find_none {l : List Rw} {p s : Int} (h : ∀ j, j < l.length → ¬ ((l.getD j r0).1 = p ∧ (l.getD j r0).2.1 = s)) : findL l p s = r0 ∧ findE l p s = 5 := find_no fun q => by
  obtain ⟨a, b⟩ := (hasC_iff _ _).1 q
  exact h _ a (cR_zero.1 b)
theorem find_not {l : List Rw} {p s : Int} (h : posC (cR p s) l < l.length → ¬ ((l.getD (posC (cR p s) l) r0).1 = p ∧ (l.getD (posC (cR p s) l) r0).2.1 = s)) : findL l p s = r0 ∧ findE l p s = 5 := find_no fun q => by
  obtain ⟨a, b⟩ := (hasC_iff _ _).1 q
  exact h a (cR_zero.1 b)
set_option maxRecDepth 100000 in
set_option maxHeartbeats 2000000 in
theorem find_any (a : Option Addr) (c : Nat) (l : List Rw) (p s : Int) (w : World) (hp : RwA w a l) (ord : OrdR l) (hm : l.length ≤ 1000000) :
    Calls Tryd.prog 16 #[.slice a l.length c, .int .i64 p, .int .i64 s] w fun e w' => e = .returned (.tuple #[.agg (encR (findL l p s)).toArray, .int .i64 (findE l p s)]) ∧ Below w.heap.size w w' := by
  have HP := Lib.hid hp
  have PL := Lib.hid (fun (X : World) (h : RwA X a l) => place_any a c l p s X h ord (by omega))
  have hle := posC_le (cR p s) l
  have FY := Lib.hid (fun (i : Nat) (hi : i < l.length) (h1 : (l.getD i r0).1 = p) (h2 : (l.getD i r0).2.1 = s) => find_at ord hi h1 h2)
  have FN := Lib.hid (fun (h : posC (cR p s) l < l.length → ¬ ((l.getD (posC (cR p s) l) r0).1 = p ∧ (l.getD (posC (cR p s) l) r0).2.1 = s)) => find_not (l := l) h)
  obtain ⟨N, hN⟩ : ∃ N, l.length = N := ⟨_, rfl⟩
  have HE := Lib.hid hN
  obtain ⟨k, hk9⟩ : ∃ k, posC (cR p s) l = k := ⟨_, rfl⟩
  rw [hk9] at hle FN
  simp only [hk9] at PL
  obtain ⟨fl, hfl⟩ : ∃ z, findL l p s = z := ⟨_, rfl⟩
  obtain ⟨fe, hfe⟩ : ∃ z, findE l p s = z := ⟨_, rfl⟩
  rw [hfl, hfe] at FN ⊢
  simp only [hfl, hfe] at FY
  rw [hN] at hle FN hm ⊢
  simp only [hN] at PL FY
  clear hp hN hk9 hfl hfe ord
  go_enter Tryd.func16, Tryd.ntmps16
  obtain ⟨G, hG⟩ : ∃ G, w.heap.size = G := ⟨_, rfl⟩
  have HG := Lib.hid hG
  have Kr := Lib.hid (show Blk (w.alloc (.cells #[.int .i64 0, .int .i64 0, .string ⟨#[]⟩, .int .i64 0, .int .i64 0] 24)) (G) 24 #[.int .i64 0, .int .i64 0, .string ⟨#[]⟩, .int .i64 0, .int .i64 0] from Blk.new' _ _ _ _ hG rfl)
  have B := Lib.hid (show Below w.heap.size w (w.alloc (.cells #[.int .i64 0, .int .i64 0, .string ⟨#[]⟩, .int .i64 0, .int .i64 0] 24)) by (repeat' (first | (with_reducible exact Below.refl _ _) | (with_reducible assumption) | (with_reducible refine Below.alloc ?_ ?_ _) | (with_reducible refine Below.drew ?_) | (with_reducible refine below_dn ?_) | (with_reducible refine Below.setCell ?_ ?_ _) | (with_reducible exact Nat.le_refl _) | omega | (simp only [World.size_alloc, World.size_setCell, World.size_drew]; omega) | (simp; omega) | (simp; done))))
  go_upto_region 1 with (fail)
  try rw [hG]
  generalize hw0 : (w.alloc (.cells #[.int .i64 0, .int .i64 0, .string ⟨#[]⟩, .int .i64 0, .int .i64 0] 24)) = w0 at Kr B ⊢
  clear hw0 hG
  go_wp2_with fail
  refine (PL.out _ (HP.out.mono B.out)).mono ?_
  rintro e w1 ⟨rfl, hb⟩
  replace Kr := Lib.hid (Kr.out.below hb Kr.out.lt)
  replace B := Lib.hid (B.out.trans (hb.mono B.out.size))
  clear hb
  obtain ⟨brc0, brc1, brc2, brc3, brc4⟩ := five Kr.out
  clear brc0 brc1 brc2 brc3 brc4
  clear PL
  by_cases hlt : k < N
  · have t0 : ((k : Int) == (N : Int)) = false := by simp; omega
    obtain ⟨b, off, rfl, q0, q1, q2, q3, q4⟩ := RwA.at_ (HP.out.mono B.out) (k := k) (by rw [HE.out]; exact hlt)
    obtain ⟨x, hx⟩ : ∃ y, l.getD k r0 = y := ⟨_, rfl⟩
    rw [hx] at q0 q1 q2 q3 q4
    have HX := Lib.hid hx
    clear hx
    have k0 : (0 : Int) ≤ (k : Int) := by omega
    have kN : (k : Int) < (N : Int) := by omega
    obtain ⟨x1, x2, x3, x4, x5⟩ := x
    simp only at q0 q1 q2 q3 q4
    by_cases e1 : x1 = p
    · have t1 : (x1 != p) = false := by simp [e1]
      by_cases e2 : x2 = s
      · have t2 : (x2 != s) = false := by simp [e2]
        have RY := Lib.hid (FY.out k hlt (by rw [HX.out]; exact e1) (by rw [HX.out]; exact e2))
        rw [HX.out] at RY
        clear e1 e2
        obtain ⟨brc0, brc1, brc2, brc3, brc4⟩ := five Kr.out
        have fzr := fun q => Kr.out.frozen q
        go_wp2
        have K9 := Lib.hid (show Blk (((((w1.setCell ⟨G, 0, none⟩ (.int .i64 x1)).setCell ⟨G, 1, none⟩ (.int .i64 x2)).setCell ⟨G, 2, none⟩ (.string x3)).setCell ⟨G, 3, none⟩ (.int .i64 x4)).setCell ⟨G, 4, none⟩ (.int .i64 x5)) (G) 24 #[.int .i64 x1, .int .i64 x2, .string x3, .int .i64 x4, .int .i64 x5] from (((((Kr.out.set_ 0 (.int .i64 x1)).set_ 1 (.int .i64 x2)).set_ 2 (.string x3)).set_ 3 (.int .i64 x4)).set_ 4 (.int .i64 x5)))
        have B9 := (((((B.out.setCell (p := ⟨G, 0, none⟩) (show w.heap.size ≤ G by have := HG.out; omega) (.int .i64 x1)).setCell (p := ⟨G, 1, none⟩) (show w.heap.size ≤ G by have := HG.out; omega) (.int .i64 x2)).setCell (p := ⟨G, 2, none⟩) (show w.heap.size ≤ G by have := HG.out; omega) (.string x3)).setCell (p := ⟨G, 3, none⟩) (show w.heap.size ≤ G by have := HG.out; omega) (.int .i64 x4)).setCell (p := ⟨G, 4, none⟩) (show w.heap.size ≤ G by have := HG.out; omega) (.int .i64 x5))
        generalize hw2 : (((((w1.setCell ⟨G, 0, none⟩ (.int .i64 x1)).setCell ⟨G, 1, none⟩ (.int .i64 x2)).setCell ⟨G, 2, none⟩ (.string x3)).setCell ⟨G, 3, none⟩ (.int .i64 x4)).setCell ⟨G, 4, none⟩ (.int .i64 x5)) = w9 at K9 B9 ⊢
        clear brc0 brc1 brc2 brc3 brc4 fzr
        clear hw2
        obtain ⟨d0, d1, d2, d3, d4⟩ := five K9.out
        refine bodyPost_ret (by simp [results, Tryd.results16, go_sem, d0, d1, d2, d3, d4]; try rfl) rfl ?_
        exact ⟨by rw [RY.out.1, RY.out.2]; rfl, B9⟩
      · have t2 : (x2 != s) = true := by simp [e2]
        have RY := Lib.hid (FN.out (fun _ q => e2 (by rw [← q.2, HX.out])))
        clear e1 e2
        obtain ⟨brc0, brc1, brc2, brc3, brc4⟩ := five Kr.out
        have fzr := fun q => Kr.out.frozen q
        go_wp2
        have K9 := Lib.hid (show Blk (((((w1.setCell ⟨G, 0, none⟩ (.int .i64 0)).setCell ⟨G, 1, none⟩ (.int .i64 0)).setCell ⟨G, 2, none⟩ (.string ⟨#[]⟩)).setCell ⟨G, 3, none⟩ (.int .i64 0)).setCell ⟨G, 4, none⟩ (.int .i64 0)) (G) 24 #[.int .i64 0, .int .i64 0, .string ⟨#[]⟩, .int .i64 0, .int .i64 0] from (((((Kr.out.set_ 0 (.int .i64 0)).set_ 1 (.int .i64 0)).set_ 2 (.string ⟨#[]⟩)).set_ 3 (.int .i64 0)).set_ 4 (.int .i64 0)))
        have B9 := (((((B.out.setCell (p := ⟨G, 0, none⟩) (show w.heap.size ≤ G by have := HG.out; omega) (.int .i64 0)).setCell (p := ⟨G, 1, none⟩) (show w.heap.size ≤ G by have := HG.out; omega) (.int .i64 0)).setCell (p := ⟨G, 2, none⟩) (show w.heap.size ≤ G by have := HG.out; omega) (.string ⟨#[]⟩)).setCell (p := ⟨G, 3, none⟩) (show w.heap.size ≤ G by have := HG.out; omega) (.int .i64 0)).setCell (p := ⟨G, 4, none⟩) (show w.heap.size ≤ G by have := HG.out; omega) (.int .i64 0))
        generalize hw2 : (((((w1.setCell ⟨G, 0, none⟩ (.int .i64 0)).setCell ⟨G, 1, none⟩ (.int .i64 0)).setCell ⟨G, 2, none⟩ (.string ⟨#[]⟩)).setCell ⟨G, 3, none⟩ (.int .i64 0)).setCell ⟨G, 4, none⟩ (.int .i64 0)) = w9 at K9 B9 ⊢
        clear brc0 brc1 brc2 brc3 brc4 fzr
        clear hw2
        obtain ⟨d0, d1, d2, d3, d4⟩ := five K9.out
        refine bodyPost_ret (by simp [results, Tryd.results16, go_sem, d0, d1, d2, d3, d4]; try rfl) rfl ?_
        exact ⟨by rw [RY.out.1, RY.out.2]; rfl, B9⟩
    · have t1 : (x1 != p) = true := by simp [e1]
      have RY := Lib.hid (FN.out (fun _ q => e1 (by rw [← q.1, HX.out])))
      clear e1
      obtain ⟨brc0, brc1, brc2, brc3, brc4⟩ := five Kr.out
      have fzr := fun q => Kr.out.frozen q
      go_wp2
      have K9 := Lib.hid (show Blk (((((w1.setCell ⟨G, 0, none⟩ (.int .i64 0)).setCell ⟨G, 1, none⟩ (.int .i64 0)).setCell ⟨G, 2, none⟩ (.string ⟨#[]⟩)).setCell ⟨G, 3, none⟩ (.int .i64 0)).setCell ⟨G, 4, none⟩ (.int .i64 0)) (G) 24 #[.int .i64 0, .int .i64 0, .string ⟨#[]⟩, .int .i64 0, .int .i64 0] from (((((Kr.out.set_ 0 (.int .i64 0)).set_ 1 (.int .i64 0)).set_ 2 (.string ⟨#[]⟩)).set_ 3 (.int .i64 0)).set_ 4 (.int .i64 0)))
      have B9 := (((((B.out.setCell (p := ⟨G, 0, none⟩) (show w.heap.size ≤ G by have := HG.out; omega) (.int .i64 0)).setCell (p := ⟨G, 1, none⟩) (show w.heap.size ≤ G by have := HG.out; omega) (.int .i64 0)).setCell (p := ⟨G, 2, none⟩) (show w.heap.size ≤ G by have := HG.out; omega) (.string ⟨#[]⟩)).setCell (p := ⟨G, 3, none⟩) (show w.heap.size ≤ G by have := HG.out; omega) (.int .i64 0)).setCell (p := ⟨G, 4, none⟩) (show w.heap.size ≤ G by have := HG.out; omega) (.int .i64 0))
      generalize hw2 : (((((w1.setCell ⟨G, 0, none⟩ (.int .i64 0)).setCell ⟨G, 1, none⟩ (.int .i64 0)).setCell ⟨G, 2, none⟩ (.string ⟨#[]⟩)).setCell ⟨G, 3, none⟩ (.int .i64 0)).setCell ⟨G, 4, none⟩ (.int .i64 0)) = w9 at K9 B9 ⊢
      clear brc0 brc1 brc2 brc3 brc4 fzr
      clear hw2
      obtain ⟨d0, d1, d2, d3, d4⟩ := five K9.out
      refine bodyPost_ret (by simp [results, Tryd.results16, go_sem, d0, d1, d2, d3, d4]; try rfl) rfl ?_
      exact ⟨by rw [RY.out.1, RY.out.2]; rfl, B9⟩
  · have hkN : k = N := by omega
    have RY := Lib.hid (FN.out (fun q => absurd q hlt))
    subst hkN
    have t0 : ((k : Int) == (k : Int)) = true := by simp
    obtain ⟨brc0, brc1, brc2, brc3, brc4⟩ := five Kr.out
    have fzr := fun q => Kr.out.frozen q
    go_wp2
    have K9 := Lib.hid (show Blk (((((w1.setCell ⟨G, 0, none⟩ (.int .i64 0)).setCell ⟨G, 1, none⟩ (.int .i64 0)).setCell ⟨G, 2, none⟩ (.string ⟨#[]⟩)).setCell ⟨G, 3, none⟩ (.int .i64 0)).setCell ⟨G, 4, none⟩ (.int .i64 0)) (G) 24 #[.int .i64 0, .int .i64 0, .string ⟨#[]⟩, .int .i64 0, .int .i64 0] from (((((Kr.out.set_ 0 (.int .i64 0)).set_ 1 (.int .i64 0)).set_ 2 (.string ⟨#[]⟩)).set_ 3 (.int .i64 0)).set_ 4 (.int .i64 0)))
    have B9 := (((((B.out.setCell (p := ⟨G, 0, none⟩) (show w.heap.size ≤ G by have := HG.out; omega) (.int .i64 0)).setCell (p := ⟨G, 1, none⟩) (show w.heap.size ≤ G by have := HG.out; omega) (.int .i64 0)).setCell (p := ⟨G, 2, none⟩) (show w.heap.size ≤ G by have := HG.out; omega) (.string ⟨#[]⟩)).setCell (p := ⟨G, 3, none⟩) (show w.heap.size ≤ G by have := HG.out; omega) (.int .i64 0)).setCell (p := ⟨G, 4, none⟩) (show w.heap.size ≤ G by have := HG.out; omega) (.int .i64 0))
    generalize hw2 : (((((w1.setCell ⟨G, 0, none⟩ (.int .i64 0)).setCell ⟨G, 1, none⟩ (.int .i64 0)).setCell ⟨G, 2, none⟩ (.string ⟨#[]⟩)).setCell ⟨G, 3, none⟩ (.int .i64 0)).setCell ⟨G, 4, none⟩ (.int .i64 0)) = w9 at K9 B9 ⊢
    clear brc0 brc1 brc2 brc3 brc4 fzr
    clear hw2
    obtain ⟨d0, d1, d2, d3, d4⟩ := five K9.out
    refine bodyPost_ret (by simp [results, Tryd.results16, go_sem, d0, d1, d2, d3, d4]; try rfl) rfl ?_
    exact ⟨by rw [RY.out.1, RY.out.2]; rfl, B9⟩
set_option maxRecDepth 100000 in
set_option maxHeartbeats 2000000 in
theorem rfind_any (a : Option Addr) (c : Nat) (l : List Rw) (p s : Int) (w : World) (hp : RwA w a l) (ord : OrdR l) (hm : l.length ≤ 1000000) :
    Calls Tryd.prog 17 #[.slice a l.length c, .int .i64 p, .int .i64 s] w fun e w' => e = .returned (.agg (encR (findL l p s) ++ [Value.int .i64 (findE l p s)]).toArray) ∧ Below w.heap.size w w' := by
  have HP := Lib.hid hp
  have FY := Lib.hid (fun (i : Nat) (hi : i < l.length) (h1 : (l.getD i r0).1 = p) (h2 : (l.getD i r0).2.1 = s) => find_at ord hi h1 h2)
  have FN := Lib.hid (fun (h : ∀ j, j < l.length → ¬ ((l.getD j r0).1 = p ∧ (l.getD j r0).2.1 = s)) => find_none (l := l) h)
  obtain ⟨N, hN⟩ : ∃ N, l.length = N := ⟨_, rfl⟩
  have HE := Lib.hid hN
  obtain ⟨fl, hfl⟩ : ∃ z, findL l p s = z := ⟨_, rfl⟩
  obtain ⟨fe, hfe⟩ : ∃ z, findE l p s = z := ⟨_, rfl⟩
  rw [hfl, hfe] at FN ⊢
  simp only [hfl, hfe] at FY
  rw [hN] at FN hm ⊢
  simp only [hN] at FY
  clear hp hN hfl hfe ord
  go_enter Tryd.func17, Tryd.ntmps17
  obtain ⟨G, hG⟩ : ∃ G, w.heap.size = G := ⟨_, rfl⟩
  have HG := Lib.hid hG
  have Kr := Lib.hid (show Blk (w.alloc (.cells #[.int .i64 0, .int .i64 0, .string ⟨#[]⟩, .int .i64 0, .int .i64 0, .int .i64 0] 40)) (G) 40 #[.int .i64 0, .int .i64 0, .string ⟨#[]⟩, .int .i64 0, .int .i64 0, .int .i64 0] from Blk.new' _ _ _ _ hG rfl)
  have B := Lib.hid (show Below w.heap.size w (w.alloc (.cells #[.int .i64 0, .int .i64 0, .string ⟨#[]⟩, .int .i64 0, .int .i64 0, .int .i64 0] 40)) by (repeat' (first | (with_reducible exact Below.refl _ _) | (with_reducible assumption) | (with_reducible refine Below.alloc ?_ ?_ _) | (with_reducible refine Below.drew ?_) | (with_reducible refine below_dn ?_) | (with_reducible refine Below.setCell ?_ ?_ _) | (with_reducible exact Nat.le_refl _) | omega | (simp only [World.size_alloc, World.size_setCell, World.size_drew]; omega) | (simp; omega) | (simp; done))))
  go_upto_region 1 with (fail)
  try rw [hG]
  generalize hw0 : (w.alloc (.cells #[.int .i64 0, .int .i64 0, .string ⟨#[]⟩, .int .i64 0, .int .i64 0, .int .i64 0] 40)) = w0 at Kr B ⊢
  clear hw0 hG
  go_wp2
  go_loopw [7] (fun u7 wr => ∃ k : Nat, k ≤ N ∧ u7 = .int .i64 k ∧ Hid (∀ j, j < k → ¬ ((l.getD j r0).1 = p ∧ (l.getD j r0).2.1 = s)) ∧ Hid (Blk wr G 40 #[.int .i64 0, .int .i64 0, .string ⟨#[]⟩, .int .i64 0, .int .i64 0, .int .i64 0]) ∧ Hid (Below w.heap.size w wr)) (fun u7 _ => (N - intOf u7).toNat)
  case atStart => exact ⟨0, by omega, rfl, Lib.hid (fun j h => absurd h (by omega)), Kr, B⟩
  case round =>
    clear Kr B
    obtain ⟨k, hk, rfl, HJ, Kr, B⟩ := hrel
    by_cases hlt : k < N
    · have t0 : decide ((k : Int) < (N : Int)) = true := decide_eq_true (by omega)
      have wk : IntKind.i64.wrap ((k : Int) + 1) = (k : Int) + 1 := by rw [IntKind.wrap_i64]; omega
      obtain ⟨b, off, rfl, q0, q1, q2, q3, q4⟩ := RwA.at_ (HP.out.mono B.out) (k := k) (by rw [HE.out]; exact hlt)
      obtain ⟨x, hx⟩ : ∃ y, l.getD k r0 = y := ⟨_, rfl⟩
      rw [hx] at q0 q1 q2 q3 q4
      have HX := Lib.hid hx
      clear hx
      have k0 : (0 : Int) ≤ (k : Int) := by omega
      have kN : (k : Int) < (N : Int) := by omega
      obtain ⟨x1, x2, x3, x4, x5⟩ := x
      simp only at q0 q1 q2 q3 q4
      have NX := Lib.hid (fun (h : ¬ (x1 = p ∧ x2 = s)) => show ∀ j, j < k + 1 → ¬ ((l.getD j r0).1 = p ∧ (l.getD j r0).2.1 = s) from fun j hj => by
        rcases Nat.lt_or_ge j k with q | q
        · exact HJ.out j q
        · obtain rfl : j = k := by omega
          rw [HX.out]; exact h)
      by_cases e1 : x1 = p
      · have t1 : (x1 == p) = true := beq_iff_eq.2 e1
        by_cases e2 : x2 = s
        · have t2 : (x2 == s) = true := beq_iff_eq.2 e2
          have RY := Lib.hid (FY.out k hlt (by rw [HX.out]; exact e1) (by rw [HX.out]; exact e2))
          rw [HX.out] at RY
          clear e1 e2
          obtain ⟨brc0, brc1, brc2, brc3, brc4, brc5⟩ := six Kr.out
          have fzr := fun q => Kr.out.frozen q
          go_wp2
          have K9 := Lib.hid (show Blk ((((((wr.setCell ⟨G, 0, none⟩ (.int .i64 x1)).setCell ⟨G, 1, none⟩ (.int .i64 x2)).setCell ⟨G, 2, none⟩ (.string x3)).setCell ⟨G, 3, none⟩ (.int .i64 x4)).setCell ⟨G, 4, none⟩ (.int .i64 x5)).setCell ⟨G, 5, none⟩ (.int .i64 0)) (G) 40 #[.int .i64 x1, .int .i64 x2, .string x3, .int .i64 x4, .int .i64 x5, .int .i64 0] from ((((((Kr.out.set_ 0 (.int .i64 x1)).set_ 1 (.int .i64 x2)).set_ 2 (.string x3)).set_ 3 (.int .i64 x4)).set_ 4 (.int .i64 x5)).set_ 5 (.int .i64 0)))
          have B9 := ((((((B.out.setCell (p := ⟨G, 0, none⟩) (show w.heap.size ≤ G by have := HG.out; omega) (.int .i64 x1)).setCell (p := ⟨G, 1, none⟩) (show w.heap.size ≤ G by have := HG.out; omega) (.int .i64 x2)).setCell (p := ⟨G, 2, none⟩) (show w.heap.size ≤ G by have := HG.out; omega) (.string x3)).setCell (p := ⟨G, 3, none⟩) (show w.heap.size ≤ G by have := HG.out; omega) (.int .i64 x4)).setCell (p := ⟨G, 4, none⟩) (show w.heap.size ≤ G by have := HG.out; omega) (.int .i64 x5)).setCell (p := ⟨G, 5, none⟩) (show w.heap.size ≤ G by have := HG.out; omega) (.int .i64 0))
          generalize hw2 : ((((((wr.setCell ⟨G, 0, none⟩ (.int .i64 x1)).setCell ⟨G, 1, none⟩ (.int .i64 x2)).setCell ⟨G, 2, none⟩ (.string x3)).setCell ⟨G, 3, none⟩ (.int .i64 x4)).setCell ⟨G, 4, none⟩ (.int .i64 x5)).setCell ⟨G, 5, none⟩ (.int .i64 0)) = w9 at K9 B9 ⊢
          clear brc0 brc1 brc2 brc3 brc4 brc5 fzr
          clear hw2
          obtain ⟨d0, d1, d2, d3, d4, d5⟩ := six K9.out
          refine bodyPost_ret (by simp [results, Tryd.results17, go_sem, d0, d1, d2, d3, d4, d5]; try rfl) rfl ?_
          exact ⟨by rw [RY.out.1, RY.out.2]; rfl, B9⟩
        · have t2 : (x2 == s) = false := beq_eq_false_iff_ne.2 e2
          have NY := Lib.hid (NX.out (fun q => e2 q.2))
          clear e1 e2
          go_wp2
          go_roundw
          case rel => exact ⟨k + 1, by omega, by go_num, NY, Kr, B⟩
          case measure => simp [intOf]; omega
      · have t1 : (x1 == p) = false := beq_eq_false_iff_ne.2 e1
        have NY := Lib.hid (NX.out (fun q => e1 q.1))
        clear e1
        go_wp2
        go_roundw
        case rel => exact ⟨k + 1, by omega, by go_num, NY, Kr, B⟩
        case measure => simp [intOf]; omega
    · obtain rfl : k = N := by omega
      have RY := Lib.hid (FN.out (fun j hj => HJ.out j hj))
      obtain ⟨brc0, brc1, brc2, brc3, brc4, brc5⟩ := six Kr.out
      have fzr := fun q => Kr.out.frozen q
      go_wp2
      have K9 := Lib.hid (show Blk ((((((wr.setCell ⟨G, 0, none⟩ (.int .i64 0)).setCell ⟨G, 1, none⟩ (.int .i64 0)).setCell ⟨G, 2, none⟩ (.string ⟨#[]⟩)).setCell ⟨G, 3, none⟩ (.int .i64 0)).setCell ⟨G, 4, none⟩ (.int .i64 0)).setCell ⟨G, 5, none⟩ (.int .i64 5)) (G) 40 #[.int .i64 0, .int .i64 0, .string ⟨#[]⟩, .int .i64 0, .int .i64 0, .int .i64 5] from ((((((Kr.out.set_ 0 (.int .i64 0)).set_ 1 (.int .i64 0)).set_ 2 (.string ⟨#[]⟩)).set_ 3 (.int .i64 0)).set_ 4 (.int .i64 0)).set_ 5 (.int .i64 5)))
      have B9 := ((((((B.out.setCell (p := ⟨G, 0, none⟩) (show w.heap.size ≤ G by have := HG.out; omega) (.int .i64 0)).setCell (p := ⟨G, 1, none⟩) (show w.heap.size ≤ G by have := HG.out; omega) (.int .i64 0)).setCell (p := ⟨G, 2, none⟩) (show w.heap.size ≤ G by have := HG.out; omega) (.string ⟨#[]⟩)).setCell (p := ⟨G, 3, none⟩) (show w.heap.size ≤ G by have := HG.out; omega) (.int .i64 0)).setCell (p := ⟨G, 4, none⟩) (show w.heap.size ≤ G by have := HG.out; omega) (.int .i64 0)).setCell (p := ⟨G, 5, none⟩) (show w.heap.size ≤ G by have := HG.out; omega) (.int .i64 5))
      generalize hw2 : ((((((wr.setCell ⟨G, 0, none⟩ (.int .i64 0)).setCell ⟨G, 1, none⟩ (.int .i64 0)).setCell ⟨G, 2, none⟩ (.string ⟨#[]⟩)).setCell ⟨G, 3, none⟩ (.int .i64 0)).setCell ⟨G, 4, none⟩ (.int .i64 0)).setCell ⟨G, 5, none⟩ (.int .i64 5)) = w9 at K9 B9 ⊢
      clear brc0 brc1 brc2 brc3 brc4 brc5 fzr
      clear hw2
      obtain ⟨d0, d1, d2, d3, d4, d5⟩ := six K9.out
      refine bodyPost_ret (by simp [results, Tryd.results17, go_sem, d0, d1, d2, d3, d4, d5]; try rfl) rfl ?_
      exact ⟨by rw [RY.out.1, RY.out.2]; rfl, B9⟩
end Go.Proofs.YtcdcnklfcmoiiaaDoor
