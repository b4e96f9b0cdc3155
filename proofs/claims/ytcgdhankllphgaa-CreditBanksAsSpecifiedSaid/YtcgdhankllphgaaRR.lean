/- Contracts: the reference's row and coin. -/
import Derived.Test.YtcgdhankllphgaaMP
import Derived.Test.YtcgdhankllphgaaP
namespace Go.Proofs.Ytcgdhankllphgaa
set_option linter.unusedVariables false
set_option linter.unusedSimpArgs false
open Go.RowKit
def rowL (l : List Rw) (w g : Int) : Rw := if hasC (cR w g) l = true then l.getD (posC (cR w g) l) r0 else (w, g, 0, 0)
theorem row_mem {l : List Rw} (ord : OrdR l) {x : Rw} (hx : x ∈ l) : hasC (cR x.1 x.2.1) l = true ∧ rowL l x.1 x.2.1 = x := by
  obtain ⟨i, hi, rfl⟩ := List.mem_iff_getElem.1 hx
  have e : posC (cR l[i].1 l[i].2.1) l = i := posC_is _ _ _ (by omega) (fun j hj => by
    have := ord.lt hj hi
    rw [getEl hi] at this
    rw [cR_neg]; exact this) (fun _ => by rw [getEl hi, cR_neg]; omega)
  have hh : hasC (cR l[i].1 l[i].2.1) l = true := by rw [hasC_iff, e, getEl hi]; exact ⟨hi, cR_zero.2 ⟨rfl, rfl⟩⟩
  unfold rowL
  rw [if_pos hh, e, getEl hi]
  exact ⟨hh, rfl⟩
theorem row_none {l : List Rw} {w g : Int} (h : ∀ x ∈ l, ¬ (x.1 = w ∧ x.2.1 = g)) : hasC (cR w g) l = false ∧ rowL l w g = (w, g, 0, 0) := by
  have hh := (dealt_none h).1
  unfold rowL
  rw [hh]
  exact ⟨rfl, rfl⟩
theorem coin_none {l : List Rw} {w : Int} (h : ∀ x ∈ l, ¬ x.1 = w) : hasC (cW w) l = false ∧ coinL l w = (w, 0, 0, 0) := by
  have hh : hasC (cW w) l = false := by
    cases q : hasC (cW w) l
    · rfl
    · obtain ⟨h1, h2⟩ := (hasC_iff _ _).1 q
      rw [getEl h1] at h2
      exact absurd (cW_zero.1 h2) (h _ (List.getElem_mem h1))
  unfold coinL
  rw [hh]
  exact ⟨rfl, rfl⟩
set_option maxRecDepth 100000 in
set_option maxHeartbeats 2000000 in
theorem rowref_any (cap len : Int) (a : Option Addr) (c : Nat) (l : List Rw) (wi ga : Int) (w : World) (hp : RwA w a l) (ord : OrdR l) (hm : l.length ≤ 9223372036854775807) :
    Calls Try.prog 55 #[.agg #[.int .i64 cap, .int .i64 len, .slice a l.length c], .int .i64 wi, .int .i64 ga] w fun e w' => e = .returned (.tuple #[.agg (encR (rowL l wi ga)).toArray, .bool (hasC (cR wi ga) l)]) ∧ Below w.heap.size w w' := by
  have HP := Lib.hid hp
  have OR := Lib.hid ord
  obtain ⟨N, hN⟩ : ∃ N, l.length = N := ⟨_, rfl⟩
  have HE := Lib.hid hN
  rw [hN] at hm ⊢
  clear hp ord hN
  go_enter Try.func55, Try.ntmps55
  obtain ⟨G, hG⟩ : ∃ G, w.heap.size = G := ⟨_, rfl⟩
  have HG := Lib.hid hG
  have K1 := Lib.hid (show Blk ((w.alloc (.cells #[.int .i64 cap, .int .i64 len, .slice a N c] 24)).alloc (.cells #[.int .i64 0, .int .i64 0, .int .i64 0, .int .i64 0] 72)) G 24 #[.int .i64 cap, .int .i64 len, .slice a N c] from (Blk.new' w _ _ _ hG rfl).alloc _)
  have K2 := Lib.hid (show Blk ((w.alloc (.cells #[.int .i64 cap, .int .i64 len, .slice a N c] 24)).alloc (.cells #[.int .i64 0, .int .i64 0, .int .i64 0, .int .i64 0] 72)) (G + 1) 72 #[.int .i64 0, .int .i64 0, .int .i64 0, .int .i64 0] from Blk.new' _ _ _ _ (by rw [World.size_alloc, hG]) rfl)
  have B := Lib.hid (show Below w.heap.size w ((w.alloc (.cells #[.int .i64 cap, .int .i64 len, .slice a N c] 24)).alloc (.cells #[.int .i64 0, .int .i64 0, .int .i64 0, .int .i64 0] 72)) by (repeat' (first | (with_reducible exact Below.refl _ _) | (with_reducible assumption) | (with_reducible refine Below.alloc ?_ ?_ _) | (with_reducible refine Below.drew ?_) | (with_reducible refine below_dn ?_) | (with_reducible refine Below.setCell ?_ ?_ _) | (with_reducible exact Nat.le_refl _) | omega | (simp only [World.size_alloc, World.size_setCell, World.size_drew]; omega) | (simp; omega) | (simp; done))))
  go_upto_region 1 with (fail)
  try rw [hG]
  generalize hw0 : ((w.alloc (.cells #[.int .i64 cap, .int .i64 len, .slice a N c] 24)).alloc (.cells #[.int .i64 0, .int .i64 0, .int .i64 0, .int .i64 0] 72)) = w0 at K1 K2 B ⊢
  clear hw0 hG
  go_wp2
  go_loopw [8] (fun u wr => ∃ k : Nat, k ≤ N ∧ u = .int .i64 k ∧ Hid (∀ j, j < k → ¬ ((l.getD j r0).1 = wi ∧ (l.getD j r0).2.1 = ga)) ∧ Hid (Below w0.heap.size w0 wr)) (fun u _ => (N - intOf u).toNat)
  case atStart => exact ⟨0, by omega, rfl, Lib.hid (fun j hj => absurd hj (by omega)), Lib.hid (Below.refl _ _)⟩
  case round =>
    obtain ⟨k, hk, rfl, hn, hsw⟩ := hrel
    replace K1 := Lib.hid (K1.out.below hsw.out K1.out.lt)
    replace K2 := Lib.hid (K2.out.below hsw.out K2.out.lt)
    replace B := Lib.hid (B.out.trans (hsw.out.mono B.out.size))
    obtain ⟨d0, d1, d2⟩ := three K1.out
    obtain ⟨h0, h1, h2, h3⟩ := four K2.out
    have fz := fun q => K2.out.frozen q
    by_cases hlt : k < N
    · have t0 : decide ((k : Int) < (N : Int)) = true := decide_eq_true (by omega)
      have wk : IntKind.i64.wrap ((k : Int) + 1) = (k : Int) + 1 := by rw [IntKind.wrap_i64]; omega
      obtain ⟨b, off, rfl, q0, q1, q2, q3⟩ := RwA.at_ (HP.out.mono B.out) (k := k) (by rw [HE.out]; exact hlt)
      have hmem : l.getD k r0 ∈ l := by rw [getEl (by rw [HE.out]; exact hlt)]; exact List.getElem_mem _
      obtain ⟨x, hx⟩ : ∃ y, l.getD k r0 = y := ⟨_, rfl⟩
      have HX := Lib.hid hx
      rw [hx] at q0 q1 q2 q3
      clear hx
      obtain ⟨x1, x2, x3, x4⟩ := x
      simp only at q0 q1 q2 q3
      have k0 : (0 : Int) ≤ (k : Int) := by omega
      have kN : (k : Int) < (N : Int) := by omega
      by_cases e1 : x1 = wi
      · have m1 : (x1 == wi) = true := beq_iff_eq.2 e1
        by_cases e2 : x2 = ga
        · have m2 : (x2 == ga) = true := beq_iff_eq.2 e2
          have RE := Lib.hid (show rowL l wi ga = (x1, x2, x3, x4) ∧ hasC (cR wi ga) l = true from by
            obtain ⟨q1, q2⟩ := row_mem OR.out (show (x1, x2, x3, x4) ∈ l from by rw [← HX.out]; exact hmem)
            simp only at q1 q2
            rw [e1, e2] at q1 q2 ⊢
            exact ⟨q2, q1⟩)
          clear e1 e2 hmem
          go_wp2
          have K3 := Lib.hid (K2.out.setR (.int .i64 x1) (.int .i64 x2) (.int .i64 x3) (.int .i64 x4))
          have B3 := Lib.hid (below_setR B.out (show w.heap.size ≤ G + 1 by have := HG.out; omega) (.int .i64 x1) (.int .i64 x2) (.int .i64 x3) (.int .i64 x4))
          generalize hw2 : (((wr.setCell ⟨G + 1, 0, none⟩ (.int .i64 x1)).setCell ⟨G + 1, 1, none⟩ (.int .i64 x2)).setCell ⟨G + 1, 2, none⟩ (.int .i64 x3)).setCell ⟨G + 1, 3, none⟩ (.int .i64 x4) = w2 at K3 B3 ⊢
          clear hw2 d0 d1 d2 h0 h1 h2 h3 fz
          obtain ⟨d0, d1, d2, d3⟩ := four K3.out
          refine bodyPost_ret (by simp [results, Try.results55, go_sem, d0, d1, d2, d3]; try rfl) rfl ?_
          exact ⟨by rw [RE.out.1, RE.out.2]; rfl, B3.out⟩
        · have m2 : (x2 == ga) = false := beq_eq_false_iff_ne.2 e2
          have NX := Lib.hid (show ∀ j, j < k + 1 → ¬ ((l.getD j r0).1 = wi ∧ (l.getD j r0).2.1 = ga) from fun j hj => by
            rcases Nat.lt_or_ge j k with q | q
            · exact hn.out j q
            · obtain rfl : j = k := by omega
              rw [HX.out]; exact fun q => e2 q.2)
          clear e1 e2 hmem
          go_wp2
          go_roundw
          case rel => exact ⟨k + 1, by omega, by go_num, NX, hsw⟩
          case measure => simp [intOf]; omega
      · have m1 : (x1 == wi) = false := beq_eq_false_iff_ne.2 e1
        have NX := Lib.hid (show ∀ j, j < k + 1 → ¬ ((l.getD j r0).1 = wi ∧ (l.getD j r0).2.1 = ga) from fun j hj => by
          rcases Nat.lt_or_ge j k with q | q
          · exact hn.out j q
          · obtain rfl : j = k := by omega
            rw [HX.out]; exact fun q => e1 q.1)
        clear e1 hmem
        go_wp2
        go_roundw
        case rel => exact ⟨k + 1, by omega, by go_num, NX, hsw⟩
        case measure => simp [intOf]; omega
    · obtain rfl : k = N := by omega
      have RE := Lib.hid (show rowL l wi ga = (wi, ga, 0, 0) ∧ hasC (cR wi ga) l = false from by
        obtain ⟨q1, q2⟩ := row_none (l := l) (w := wi) (g := ga) (fun x hx => by
          obtain ⟨j, hj, rfl⟩ := List.mem_iff_getElem.1 hx
          have := hn.out j (by rw [← HE.out]; exact hj)
          rwa [getEl hj] at this)
        exact ⟨q2, q1⟩)
      go_wp2
      have K3 := Lib.hid (K2.out.setR (.int .i64 wi) (.int .i64 ga) (.int .i64 0) (.int .i64 0))
      have B3 := Lib.hid (below_setR B.out (show w.heap.size ≤ G + 1 by have := HG.out; omega) (.int .i64 wi) (.int .i64 ga) (.int .i64 0) (.int .i64 0))
      generalize hw2 : (((wr.setCell ⟨G + 1, 0, none⟩ (.int .i64 wi)).setCell ⟨G + 1, 1, none⟩ (.int .i64 ga)).setCell ⟨G + 1, 2, none⟩ (.int .i64 0)).setCell ⟨G + 1, 3, none⟩ (.int .i64 0) = w2 at K3 B3 ⊢
      clear hw2 d0 d1 d2 h0 h1 h2 h3 fz
      obtain ⟨d0, d1, d2, d3⟩ := four K3.out
      refine bodyPost_ret (by simp [results, Try.results55, go_sem, d0, d1, d2, d3]; try rfl) rfl ?_
      exact ⟨by rw [RE.out.1, RE.out.2]; rfl, B3.out⟩
set_option maxRecDepth 100000 in
set_option maxHeartbeats 2000000 in
theorem coinref_any (len : Int) (a : Option Addr) (c : Nat) (l : List Rw) (wi : Int) (w : World) (hp : RwA w a l) (ord : OrdW l) (hm : l.length ≤ 9223372036854775807) :
    Calls Try.prog 66 #[.agg #[.int .i64 len, .slice a l.length c], .int .i64 wi] w fun e w' => e = .returned (.tuple #[.agg (encR (coinL l wi)).toArray, .bool (hasC (cW wi) l)]) ∧ Below w.heap.size w w' := by
  have HP := Lib.hid hp
  have OR := Lib.hid ord
  obtain ⟨N, hN⟩ : ∃ N, l.length = N := ⟨_, rfl⟩
  have HE := Lib.hid hN
  rw [hN] at hm ⊢
  clear hp ord hN
  go_enter Try.func66, Try.ntmps66
  obtain ⟨G, hG⟩ : ∃ G, w.heap.size = G := ⟨_, rfl⟩
  have HG := Lib.hid hG
  have K1 := Lib.hid (show Blk ((w.alloc (.cells #[.int .i64 len, .slice a N c] 45)).alloc (.cells #[.int .i64 0, .int .i64 0, .int .i64 0, .int .i64 0] 89)) G 45 #[.int .i64 len, .slice a N c] from (Blk.new' w _ _ _ hG rfl).alloc _)
  have K2 := Lib.hid (show Blk ((w.alloc (.cells #[.int .i64 len, .slice a N c] 45)).alloc (.cells #[.int .i64 0, .int .i64 0, .int .i64 0, .int .i64 0] 89)) (G + 1) 89 #[.int .i64 0, .int .i64 0, .int .i64 0, .int .i64 0] from Blk.new' _ _ _ _ (by rw [World.size_alloc, hG]) rfl)
  have B := Lib.hid (show Below w.heap.size w ((w.alloc (.cells #[.int .i64 len, .slice a N c] 45)).alloc (.cells #[.int .i64 0, .int .i64 0, .int .i64 0, .int .i64 0] 89)) by (repeat' (first | (with_reducible exact Below.refl _ _) | (with_reducible assumption) | (with_reducible refine Below.alloc ?_ ?_ _) | (with_reducible refine Below.drew ?_) | (with_reducible refine below_dn ?_) | (with_reducible refine Below.setCell ?_ ?_ _) | (with_reducible exact Nat.le_refl _) | omega | (simp only [World.size_alloc, World.size_setCell, World.size_drew]; omega) | (simp; omega) | (simp; done))))
  go_upto_region 1 with (fail)
  try rw [hG]
  generalize hw0 : ((w.alloc (.cells #[.int .i64 len, .slice a N c] 45)).alloc (.cells #[.int .i64 0, .int .i64 0, .int .i64 0, .int .i64 0] 89)) = w0 at K1 K2 B ⊢
  clear hw0 hG
  go_wp2
  go_loopw [6] (fun u wr => ∃ k : Nat, k ≤ N ∧ u = .int .i64 k ∧ Hid (∀ j, j < k → ¬ ((l.getD j r0).1 = wi)) ∧ Hid (Below w0.heap.size w0 wr)) (fun u _ => (N - intOf u).toNat)
  case atStart => exact ⟨0, by omega, rfl, Lib.hid (fun j hj => absurd hj (by omega)), Lib.hid (Below.refl _ _)⟩
  case round =>
    obtain ⟨k, hk, rfl, hn, hsw⟩ := hrel
    replace K1 := Lib.hid (K1.out.below hsw.out K1.out.lt)
    replace K2 := Lib.hid (K2.out.below hsw.out K2.out.lt)
    replace B := Lib.hid (B.out.trans (hsw.out.mono B.out.size))
    obtain ⟨d0, d1⟩ := twob K1.out
    obtain ⟨h0, h1, h2, h3⟩ := four K2.out
    have fz := fun q => K2.out.frozen q
    by_cases hlt : k < N
    · have t0 : decide ((k : Int) < (N : Int)) = true := decide_eq_true (by omega)
      have wk : IntKind.i64.wrap ((k : Int) + 1) = (k : Int) + 1 := by rw [IntKind.wrap_i64]; omega
      obtain ⟨b, off, rfl, q0, q1, q2, q3⟩ := RwA.at_ (HP.out.mono B.out) (k := k) (by rw [HE.out]; exact hlt)
      have hmem : l.getD k r0 ∈ l := by rw [getEl (by rw [HE.out]; exact hlt)]; exact List.getElem_mem _
      obtain ⟨x, hx⟩ : ∃ y, l.getD k r0 = y := ⟨_, rfl⟩
      have HX := Lib.hid hx
      rw [hx] at q0 q1 q2 q3
      clear hx
      obtain ⟨x1, x2, x3, x4⟩ := x
      simp only at q0 q1 q2 q3
      have k0 : (0 : Int) ≤ (k : Int) := by omega
      have kN : (k : Int) < (N : Int) := by omega
      by_cases e1 : x1 = wi
      · have m1 : (x1 == wi) = true := beq_iff_eq.2 e1
        have RE := Lib.hid (show coinL l wi = (x1, x2, x3, x4) ∧ hasC (cW wi) l = true from by
          obtain ⟨q1, q2⟩ := coin_mem OR.out (show (x1, x2, x3, x4) ∈ l from by rw [← HX.out]; exact hmem)
          simp only at q1 q2
          rw [e1] at q1 q2 ⊢
          exact ⟨q2, q1⟩)
        clear e1 hmem
        go_wp2
        have K3 := Lib.hid (K2.out.setR (.int .i64 x1) (.int .i64 x2) (.int .i64 x3) (.int .i64 x4))
        have B3 := Lib.hid (below_setR B.out (show w.heap.size ≤ G + 1 by have := HG.out; omega) (.int .i64 x1) (.int .i64 x2) (.int .i64 x3) (.int .i64 x4))
        generalize hw2 : (((wr.setCell ⟨G + 1, 0, none⟩ (.int .i64 x1)).setCell ⟨G + 1, 1, none⟩ (.int .i64 x2)).setCell ⟨G + 1, 2, none⟩ (.int .i64 x3)).setCell ⟨G + 1, 3, none⟩ (.int .i64 x4) = w2 at K3 B3 ⊢
        clear hw2 d0 d1 h0 h1 h2 h3 fz
        obtain ⟨d0, d1, d2, d3⟩ := four K3.out
        refine bodyPost_ret (by simp [results, Try.results66, go_sem, d0, d1, d2, d3]; try rfl) rfl ?_
        exact ⟨by rw [RE.out.1, RE.out.2]; rfl, B3.out⟩
      · have m1 : (x1 == wi) = false := beq_eq_false_iff_ne.2 e1
        have NX := Lib.hid (show ∀ j, j < k + 1 → ¬ ((l.getD j r0).1 = wi) from fun j hj => by
          rcases Nat.lt_or_ge j k with q | q
          · exact hn.out j q
          · obtain rfl : j = k := by omega
            rw [HX.out]; exact e1)
        clear e1 hmem
        go_wp2
        go_roundw
        case rel => exact ⟨k + 1, by omega, by go_num, NX, hsw⟩
        case measure => simp [intOf]; omega
    · obtain rfl : k = N := by omega
      have RE := Lib.hid (show coinL l wi = (wi, 0, 0, 0) ∧ hasC (cW wi) l = false from by
        obtain ⟨q1, q2⟩ := coin_none (l := l) (w := wi) (fun x hx => by
          obtain ⟨j, hj, rfl⟩ := List.mem_iff_getElem.1 hx
          have := hn.out j (by rw [← HE.out]; exact hj)
          rwa [getEl hj] at this)
        exact ⟨q2, q1⟩)
      go_wp2
      have K3 := Lib.hid (K2.out.setR (.int .i64 wi) (.int .i64 0) (.int .i64 0) (.int .i64 0))
      have B3 := Lib.hid (below_setR B.out (show w.heap.size ≤ G + 1 by have := HG.out; omega) (.int .i64 wi) (.int .i64 0) (.int .i64 0) (.int .i64 0))
      generalize hw2 : (((wr.setCell ⟨G + 1, 0, none⟩ (.int .i64 wi)).setCell ⟨G + 1, 1, none⟩ (.int .i64 0)).setCell ⟨G + 1, 2, none⟩ (.int .i64 0)).setCell ⟨G + 1, 3, none⟩ (.int .i64 0) = w2 at K3 B3 ⊢
      clear hw2 d0 d1 h0 h1 h2 h3 fz
      obtain ⟨d0, d1, d2, d3⟩ := four K3.out
      refine bodyPost_ret (by simp [results, Try.results66, go_sem, d0, d1, d2, d3]; try rfl) rfl ?_
      exact ⟨by rw [RE.out.1, RE.out.2]; rfl, B3.out⟩
end Go.Proofs.Ytcgdhankllphgaa
