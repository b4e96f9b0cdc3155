import Derived.Test.YteblnmhaohbkkaaDoorRG1
import Derived.Deep.Cut
import Derived.Deep.CutRange
import Derived.Test.YteblnmhaohbkkaaDoorRBC
import Derived.Deep.RegionLaw
namespace Go.Proofs.YteblnmhaohbkkaaDoor
set_option linter.unusedVariables false
set_option linter.unusedSimpArgs false
set_option linter.unusedSectionVars false
section
open Go.RowKit Go.Sort
theorem twob {X : World} {g : Nat} {t : TypeId} {v0 v1 : Value} (h : Blk X g t #[v0, v1]) : X.cell? ⟨g, 0, none⟩ = some v0 ∧ X.cell? ⟨g, 1, none⟩ = some v1 := ⟨h.cell 0, h.cell 1⟩
theorem three {X : World} {g : Nat} {t : TypeId} {v0 v1 v2 : Value} (h : Blk X g t #[v0, v1, v2]) : X.cell? ⟨g, 0, none⟩ = some v0 ∧ X.cell? ⟨g, 1, none⟩ = some v1 ∧ X.cell? ⟨g, 2, none⟩ = some v2 := ⟨h.cell 0, h.cell 1, h.cell 2⟩
theorem key_mem {l : List Rw} (ord : OrdR l) {i : Nat} (hi : i < l.length) : hasC (cR (l.getD i r0).1 (l.getD i r0).2.1) l = true ∧ posC (cR (l.getD i r0).1 (l.getD i r0).2.1) l = i := by
  have e : posC (cR (l.getD i r0).1 (l.getD i r0).2.1) l = i := posC_is _ _ _ (by omega) (fun j hj => by
    have := ord.lt hj hi
    rw [cR_neg]; exact this) (fun _ => by rw [cR_neg]; omega)
  exact ⟨(hasC_iff _ _).2 (by rw [e]; exact ⟨hi, cR_zero.2 ⟨rfl, rfl⟩⟩), e⟩
theorem find_yes {l : List Rw} {p s : Int} (h : hasC (cR p s) l = true) : findL l p s = l.getD (posC (cR p s) l) r0 ∧ findE l p s = 0 := by unfold findL findE; rw [if_pos h, if_pos h]; exact ⟨rfl, rfl⟩
theorem find_no {l : List Rw} {p s : Int} (h : ¬ hasC (cR p s) l = true) : findL l p s = r0 ∧ findE l p s = 5 := by unfold findL findE; rw [if_neg h, if_neg h]; exact ⟨rfl, rfl⟩
theorem find_at {l : List Rw} (ord : OrdR l) {p s : Int} {i : Nat} (hi : i < l.length) (h1 : (l.getD i r0).1 = p) (h2 : (l.getD i r0).2.1 = s) : findL l p s = l.getD i r0 ∧ findE l p s = 0 := by
  obtain ⟨a, b⟩ := key_mem ord hi
  rw [h1, h2] at a b
  have := find_yes a
  rwa [b] at this
theorem find_not {l : List Rw} {p s : Int} (h : posC (cR p s) l < l.length → ¬ ((l.getD (posC (cR p s) l) r0).1 = p ∧ (l.getD (posC (cR p s) l) r0).2.1 = s)) : findL l p s = r0 ∧ findE l p s = 5 := find_no fun q => by
  obtain ⟨a, b⟩ := (hasC_iff _ _).1 q
  exact h a (cR_zero.1 b)
set_option maxRecDepth 100000 in
set_option maxHeartbeats 2000000 in
theorem find_any (a : Option Addr) (c : Nat) (l : List Rw) (p s : Int) (w : World) (hp : RwA w a l) (ord : OrdR l) (hm : l.length ≤ 1000000) :
    Calls Tryd.prog 87 #[.slice a l.length c, .int .i64 p, .int .i64 s] w fun e w' => e = .returned (.tuple #[.agg (encR (findL l p s)).toArray, .int .i64 (findE l p s)]) ∧ Below w.heap.size w w' := by
  have HP := Lib.hid hp
  have PL := Lib.hid (fun (X : World) (h : RwA X a l) => place_any a c l p s X h ord (by omega))
  have hle := posC_le (cR p s) l
  have FY := Lib.hid (fun (i : Nat) (hi : i < l.length) (h1 : (l.getD i r0).1 = p) (h2 : (l.getD i r0).2.1 = s) => find_at ord hi h1 h2)
  have FN := Lib.hid (fun (h : posC (cR p s) l < l.length → ¬ ((l.getD (posC (cR p s) l) r0).1 = p ∧ (l.getD (posC (cR p s) l) r0).2.1 = s)) => find_not (l := l) h)
  obtain ⟨N, hN⟩ : ∃ N, l.length = N := ⟨_, rfl⟩
  have HE := Lib.hid hN
  obtain ⟨k, hk9⟩ : ∃ k, posC (cR p s) l = k := ⟨_, rfl⟩
  rw [hk9] at hle FN
  simp only [hk9] at PL
  obtain ⟨fl, hfl⟩ : ∃ z, findL l p s = z := ⟨_, rfl⟩
  obtain ⟨fe, hfe⟩ : ∃ z, findE l p s = z := ⟨_, rfl⟩
  rw [hfl, hfe] at FN ⊢
  simp only [hfl, hfe] at FY
  rw [hN] at hle FN hm ⊢
  simp only [hN] at PL FY
  clear hp hN hk9 hfl hfe ord
  go_enter Tryd.func87, Tryd.ntmps87
  obtain ⟨G, hG⟩ : ∃ G, w.heap.size = G := ⟨_, rfl⟩
  have HG := Lib.hid hG
  have Kr := Lib.hid (show Blk (w.alloc (.cells #[.int .i64 0, .int .i64 0, .string ⟨#[]⟩, .int .i64 0, .int .i64 0] 26)) (G) 26 #[.int .i64 0, .int .i64 0, .string ⟨#[]⟩, .int .i64 0, .int .i64 0] from Blk.new' _ _ _ _ hG rfl)
  have B := Lib.hid (show Below w.heap.size w (w.alloc (.cells #[.int .i64 0, .int .i64 0, .string ⟨#[]⟩, .int .i64 0, .int .i64 0] 26)) by (repeat' (first | (with_reducible exact Below.refl _ _) | (with_reducible assumption) | (with_reducible refine Below.alloc ?_ ?_ _) | (with_reducible refine Below.drew ?_) | (with_reducible refine below_dn ?_) | (with_reducible refine Below.setCell ?_ ?_ _) | (with_reducible exact Nat.le_refl _) | omega | (simp only [World.size_alloc, World.size_setCell, World.size_drew]; omega) | (simp; omega) | (simp; done))))
  go_upto_region 1 with (fail)
  try rw [hG]
  generalize hw0 : (w.alloc (.cells #[.int .i64 0, .int .i64 0, .string ⟨#[]⟩, .int .i64 0, .int .i64 0] 26)) = w0 at Kr B ⊢
  clear hw0 hG
  go_wp2_with fail
  refine (PL.out _ (HP.out.mono B.out)).mono ?_
  rintro e w1 ⟨rfl, hb⟩
  replace Kr := Lib.hid (Kr.out.below hb Kr.out.lt)
  replace B := Lib.hid (B.out.trans (hb.mono B.out.size))
  clear hb
  obtain ⟨brc0, brc1, brc2, brc3, brc4⟩ := five Kr.out
  clear brc0 brc1 brc2 brc3 brc4
  clear PL
  by_cases hlt : k < N
  · have t0 : ((k : Int) == (N : Int)) = false := by simp; omega
    obtain ⟨b, off, rfl, q0, q1, q2, q3, q4⟩ := RwA.at_ (HP.out.mono B.out) (k := k) (by rw [HE.out]; exact hlt)
    obtain ⟨x, hx⟩ : ∃ y, l.getD k r0 = y := ⟨_, rfl⟩
    rw [hx] at q0 q1 q2 q3 q4
    have HX := Lib.hid hx
    clear hx
    have k0 : (0 : Int) ≤ (k : Int) := by omega
    have kN : (k : Int) < (N : Int) := by omega
    obtain ⟨x1, x2, x3, x4, x5⟩ := x
    simp only at q0 q1 q2 q3 q4
    by_cases e1 : x1 = p
    · have t1 : (x1 != p) = false := by simp [e1]
      by_cases e2 : x2 = s
      · have t2 : (x2 != s) = false := by simp [e2]
        have RY := Lib.hid (FY.out k hlt (by rw [HX.out]; exact e1) (by rw [HX.out]; exact e2))
        rw [HX.out] at RY
        clear e1 e2
        obtain ⟨brc0, brc1, brc2, brc3, brc4⟩ := five Kr.out
        have fzr := fun q => Kr.out.frozen q
        go_wp2
        have K9 := Lib.hid (show Blk (((((w1.setCell ⟨G, 0, none⟩ (.int .i64 x1)).setCell ⟨G, 1, none⟩ (.int .i64 x2)).setCell ⟨G, 2, none⟩ (.string x3)).setCell ⟨G, 3, none⟩ (.int .i64 x4)).setCell ⟨G, 4, none⟩ (.int .i64 x5)) (G) 26 #[.int .i64 x1, .int .i64 x2, .string x3, .int .i64 x4, .int .i64 x5] from (((((Kr.out.set_ 0 (.int .i64 x1)).set_ 1 (.int .i64 x2)).set_ 2 (.string x3)).set_ 3 (.int .i64 x4)).set_ 4 (.int .i64 x5)))
        have B9 := (((((B.out.setCell (p := ⟨G, 0, none⟩) (show w.heap.size ≤ G by have := HG.out; omega) (.int .i64 x1)).setCell (p := ⟨G, 1, none⟩) (show w.heap.size ≤ G by have := HG.out; omega) (.int .i64 x2)).setCell (p := ⟨G, 2, none⟩) (show w.heap.size ≤ G by have := HG.out; omega) (.string x3)).setCell (p := ⟨G, 3, none⟩) (show w.heap.size ≤ G by have := HG.out; omega) (.int .i64 x4)).setCell (p := ⟨G, 4, none⟩) (show w.heap.size ≤ G by have := HG.out; omega) (.int .i64 x5))
        generalize hw2 : (((((w1.setCell ⟨G, 0, none⟩ (.int .i64 x1)).setCell ⟨G, 1, none⟩ (.int .i64 x2)).setCell ⟨G, 2, none⟩ (.string x3)).setCell ⟨G, 3, none⟩ (.int .i64 x4)).setCell ⟨G, 4, none⟩ (.int .i64 x5)) = w9 at K9 B9 ⊢
        clear brc0 brc1 brc2 brc3 brc4 fzr
        clear hw2
        obtain ⟨d0, d1, d2, d3, d4⟩ := five K9.out
        refine bodyPost_ret (by simp [results, Tryd.results87, go_sem, d0, d1, d2, d3, d4]; try rfl) rfl ?_
        exact ⟨by rw [RY.out.1, RY.out.2]; rfl, B9⟩
      · have t2 : (x2 != s) = true := by simp [e2]
        have RY := Lib.hid (FN.out (fun _ q => e2 (by rw [← q.2, HX.out])))
        clear e1 e2
        obtain ⟨brc0, brc1, brc2, brc3, brc4⟩ := five Kr.out
        have fzr := fun q => Kr.out.frozen q
        go_wp2
        have K9 := Lib.hid (show Blk (((((w1.setCell ⟨G, 0, none⟩ (.int .i64 0)).setCell ⟨G, 1, none⟩ (.int .i64 0)).setCell ⟨G, 2, none⟩ (.string ⟨#[]⟩)).setCell ⟨G, 3, none⟩ (.int .i64 0)).setCell ⟨G, 4, none⟩ (.int .i64 0)) (G) 26 #[.int .i64 0, .int .i64 0, .string ⟨#[]⟩, .int .i64 0, .int .i64 0] from (((((Kr.out.set_ 0 (.int .i64 0)).set_ 1 (.int .i64 0)).set_ 2 (.string ⟨#[]⟩)).set_ 3 (.int .i64 0)).set_ 4 (.int .i64 0)))
        have B9 := (((((B.out.setCell (p := ⟨G, 0, none⟩) (show w.heap.size ≤ G by have := HG.out; omega) (.int .i64 0)).setCell (p := ⟨G, 1, none⟩) (show w.heap.size ≤ G by have := HG.out; omega) (.int .i64 0)).setCell (p := ⟨G, 2, none⟩) (show w.heap.size ≤ G by have := HG.out; omega) (.string ⟨#[]⟩)).setCell (p := ⟨G, 3, none⟩) (show w.heap.size ≤ G by have := HG.out; omega) (.int .i64 0)).setCell (p := ⟨G, 4, none⟩) (show w.heap.size ≤ G by have := HG.out; omega) (.int .i64 0))
        generalize hw2 : (((((w1.setCell ⟨G, 0, none⟩ (.int .i64 0)).setCell ⟨G, 1, none⟩ (.int .i64 0)).setCell ⟨G, 2, none⟩ (.string ⟨#[]⟩)).setCell ⟨G, 3, none⟩ (.int .i64 0)).setCell ⟨G, 4, none⟩ (.int .i64 0)) = w9 at K9 B9 ⊢
        clear brc0 brc1 brc2 brc3 brc4 fzr
        clear hw2
        obtain ⟨d0, d1, d2, d3, d4⟩ := five K9.out
        refine bodyPost_ret (by simp [results, Tryd.results87, go_sem, d0, d1, d2, d3, d4]; try rfl) rfl ?_
        exact ⟨by rw [RY.out.1, RY.out.2]; rfl, B9⟩
    · have t1 : (x1 != p) = true := by simp [e1]
      have RY := Lib.hid (FN.out (fun _ q => e1 (by rw [← q.1, HX.out])))
      clear e1
      obtain ⟨brc0, brc1, brc2, brc3, brc4⟩ := five Kr.out
      have fzr := fun q => Kr.out.frozen q
      go_wp2
      have K9 := Lib.hid (show Blk (((((w1.setCell ⟨G, 0, none⟩ (.int .i64 0)).setCell ⟨G, 1, none⟩ (.int .i64 0)).setCell ⟨G, 2, none⟩ (.string ⟨#[]⟩)).setCell ⟨G, 3, none⟩ (.int .i64 0)).setCell ⟨G, 4, none⟩ (.int .i64 0)) (G) 26 #[.int .i64 0, .int .i64 0, .string ⟨#[]⟩, .int .i64 0, .int .i64 0] from (((((Kr.out.set_ 0 (.int .i64 0)).set_ 1 (.int .i64 0)).set_ 2 (.string ⟨#[]⟩)).set_ 3 (.int .i64 0)).set_ 4 (.int .i64 0)))
      have B9 := (((((B.out.setCell (p := ⟨G, 0, none⟩) (show w.heap.size ≤ G by have := HG.out; omega) (.int .i64 0)).setCell (p := ⟨G, 1, none⟩) (show w.heap.size ≤ G by have := HG.out; omega) (.int .i64 0)).setCell (p := ⟨G, 2, none⟩) (show w.heap.size ≤ G by have := HG.out; omega) (.string ⟨#[]⟩)).setCell (p := ⟨G, 3, none⟩) (show w.heap.size ≤ G by have := HG.out; omega) (.int .i64 0)).setCell (p := ⟨G, 4, none⟩) (show w.heap.size ≤ G by have := HG.out; omega) (.int .i64 0))
      generalize hw2 : (((((w1.setCell ⟨G, 0, none⟩ (.int .i64 0)).setCell ⟨G, 1, none⟩ (.int .i64 0)).setCell ⟨G, 2, none⟩ (.string ⟨#[]⟩)).setCell ⟨G, 3, none⟩ (.int .i64 0)).setCell ⟨G, 4, none⟩ (.int .i64 0)) = w9 at K9 B9 ⊢
      clear brc0 brc1 brc2 brc3 brc4 fzr
      clear hw2
      obtain ⟨d0, d1, d2, d3, d4⟩ := five K9.out
      refine bodyPost_ret (by simp [results, Tryd.results87, go_sem, d0, d1, d2, d3, d4]; try rfl) rfl ?_
      exact ⟨by rw [RY.out.1, RY.out.2]; rfl, B9⟩
  · have hkN : k = N := by omega
    have RY := Lib.hid (FN.out (fun q => absurd q hlt))
    subst hkN
    have t0 : ((k : Int) == (k : Int)) = true := by simp
    obtain ⟨brc0, brc1, brc2, brc3, brc4⟩ := five Kr.out
    have fzr := fun q => Kr.out.frozen q
    go_wp2
    have K9 := Lib.hid (show Blk (((((w1.setCell ⟨G, 0, none⟩ (.int .i64 0)).setCell ⟨G, 1, none⟩ (.int .i64 0)).setCell ⟨G, 2, none⟩ (.string ⟨#[]⟩)).setCell ⟨G, 3, none⟩ (.int .i64 0)).setCell ⟨G, 4, none⟩ (.int .i64 0)) (G) 26 #[.int .i64 0, .int .i64 0, .string ⟨#[]⟩, .int .i64 0, .int .i64 0] from (((((Kr.out.set_ 0 (.int .i64 0)).set_ 1 (.int .i64 0)).set_ 2 (.string ⟨#[]⟩)).set_ 3 (.int .i64 0)).set_ 4 (.int .i64 0)))
    have B9 := (((((B.out.setCell (p := ⟨G, 0, none⟩) (show w.heap.size ≤ G by have := HG.out; omega) (.int .i64 0)).setCell (p := ⟨G, 1, none⟩) (show w.heap.size ≤ G by have := HG.out; omega) (.int .i64 0)).setCell (p := ⟨G, 2, none⟩) (show w.heap.size ≤ G by have := HG.out; omega) (.string ⟨#[]⟩)).setCell (p := ⟨G, 3, none⟩) (show w.heap.size ≤ G by have := HG.out; omega) (.int .i64 0)).setCell (p := ⟨G, 4, none⟩) (show w.heap.size ≤ G by have := HG.out; omega) (.int .i64 0))
    generalize hw2 : (((((w1.setCell ⟨G, 0, none⟩ (.int .i64 0)).setCell ⟨G, 1, none⟩ (.int .i64 0)).setCell ⟨G, 2, none⟩ (.string ⟨#[]⟩)).setCell ⟨G, 3, none⟩ (.int .i64 0)).setCell ⟨G, 4, none⟩ (.int .i64 0)) = w9 at K9 B9 ⊢
    clear brc0 brc1 brc2 brc3 brc4 fzr
    clear hw2
    obtain ⟨d0, d1, d2, d3, d4⟩ := five K9.out
    refine bodyPost_ret (by simp [results, Tryd.results87, go_sem, d0, d1, d2, d3, d4]; try rfl) rfl ?_
    exact ⟨by rw [RY.out.1, RY.out.2]; rfl, B9⟩
end
section
open Go.RowKit Go.Sort
end
section
namespace Ke
open Go.RowKit
abbrev AcA := RowsA 5 encR
abbrev OwnA := OwnR 26 5 encR
theorem infoA : (Tryd.prog.info? 26).map (fun i => (i.zero, i.size, i.bytes)) = some (some (.agg #[.int .i64 0, .int .i64 0, .string ⟨#[]⟩, .int .i64 0, .int .i64 0]), 5, 48) := by kernel_rfl
theorem sizeA : (Tryd.prog.info? 26).map (·.size) = some 5 := by kernel_rfl
theorem app_A (ty : TypeId) (w : World) (B : Nat) (v : Value) (l : List Rw) (hown : OwnA w B v l) (a : Option Addr) (cap : Nat) (m : List Rw) (hm : AcA w a m) (hl : l.length ≤ 1000000000) (hml : m.length ≤ 1000000000) (hB : B ≤ w.heap.size) :
    ∃ b n c w', (Builtin.append_ #[92, 92] ty #[v, .slice a m.length cap]).run Tryd.prog w = .ok (.slice b n c) w' ∧ OwnA w' B (.slice b n c) (l ++ m) ∧ Below B w w' :=
  run_app_rows Tryd.underlying92 Tryd.underlying92 infoA rfl (by decide) (by decide) encR_len encR_one w B v l hown a cap m hm hl hml hB
end Ke
end
section
namespace Ke
open Go.RowKit
theorem splice_two {α : Type} (X A E D : List α) (p : Nat) (hA : X.take p = A) (hp : A.length = p) (hX : p + E.length + D.length ≤ X.length) :
    (splice (splice X (p + E.length) D) p E).take (p + E.length + D.length) = A ++ (E ++ D) := by
  have h1 : (X.take (p + E.length)).take p = A := by rw [List.take_take, Nat.min_eq_left (by omega)]; exact hA
  have h2 : (splice X (p + E.length) D).take p = A := by
    unfold splice
    rw [List.take_append_of_le_length (by simp; omega)]
    exact h1
  have h3 : (splice X (p + E.length) D).drop (p + E.length) = D ++ X.drop (p + E.length + D.length) := by
    unfold splice
    rw [List.drop_left' (by simp; omega)]
  have h4 : splice (splice X (p + E.length) D) p E = (A ++ (E ++ D)) ++ X.drop (p + E.length + D.length) := by
    have e : splice (splice X (p + E.length) D) p E = (splice X (p + E.length) D).take p ++ (E ++ (splice X (p + E.length) D).drop (p + E.length)) := rfl
    rw [e, h2, h3]; simp
  rw [h4, List.take_left' (by simp; omega)]
theorem splice_two' {α : Type} (X A E D : List α) (p : Nat) (hA : X.take p = A) (hp : A.length = p) (hX : p + E.length + D.length ≤ X.length) :
    (splice (splice X p E) (p + E.length) D).take (p + E.length + D.length) = A ++ (E ++ D) := by
  have h1 : splice X p E = (A ++ E) ++ X.drop (p + E.length) := by unfold splice; rw [hA]; simp
  have h4 : splice (splice X p E) (p + E.length) D = (A ++ (E ++ D)) ++ (splice X p E).drop (p + E.length + D.length) := by
    have e : splice (splice X p E) (p + E.length) D = (splice X p E).take (p + E.length) ++ (D ++ (splice X p E).drop (p + E.length + D.length)) := rfl
    have h5 : (splice X p E).take (p + E.length) = A ++ E := by rw [h1, List.take_left' (by simp; omega)]
    rw [e, h5]; simp
  rw [h4, List.take_left' (by simp; omega)]
theorem splice_len {α : Type} (X : List α) (p : Nat) (E : List α) (h : p + E.length ≤ X.length) : (splice X p E).length = X.length := length_splice X p E h
end Ke
end
section
namespace Ke
open Go.RowKit
end Ke
end
section
open Go.RowKit Go.Sort
def addL (l : List Rw) (x : Rw) : List Rw × Int := if keyOk x then (if hasC (cR x.1 x.2.1) l = true then ([], 6) else if 1000 ≤ l.length then ([], 2) else (insL l (posC (cR x.1 x.2.1) l) x, 0)) else ([], 1)
theorem OwnR.weak {α : Type} {e k : Nat} {enc : α → List Value} {W : World} {B B' : Nat} {v : Value} {l : List α} (h : OwnR e k enc W B v l) (hb : B' ≤ B) : OwnR e k enc W B' v l :=
  ⟨h.1, h.2.elim Or.inl fun ⟨g, c, cur, h1, h2, h3⟩ => Or.inr ⟨g, c, cur, h1, Nat.le_trans hb h2, h3⟩⟩
def Rows (L : List Rw × Int) (w : World) (e : Ending) : Prop := ∃ a' c', e = .returned (.tuple #[.slice a' L.1.length c', .int .i64 L.2]) ∧ RwA w a' L.1
theorem Rows.nil (n : Int) (w : World) : Rows ([], n) w (.returned (.tuple #[.slice Option.none 0 0, .int .i64 n])) := ⟨Option.none, 0, rfl, RowsA.nil _ _ _ _⟩
theorem Rows.own {L : List Rw} {w : World} {B : Nat} {v : Value} (n : Int) (h : OwnR 26 5 encR w B v L) : Rows (L, n) w (.returned (.tuple #[v, .int .i64 n])) := by
  obtain ⟨a, c, e, -, hr⟩ := OwnR.view encR_len h
  subst e
  exact ⟨a, c, rfl, hr⟩
end
end Go.Proofs.YteblnmhaohbkkaaDoor
