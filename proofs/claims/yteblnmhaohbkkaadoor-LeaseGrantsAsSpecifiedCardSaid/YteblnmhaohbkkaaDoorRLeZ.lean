/- Contracts: find and put of the specification. -/
import Derived.Test.YteblnmhaohbkkaaDoorRLeS
namespace Go.Proofs.YteblnmhaohbkkaaDoor
set_option linter.unusedVariables false
set_option linter.unusedSimpArgs false
namespace Le
open Go.RowKit Go.Sort
theorem app_oneG (w : World) (B : Nat) (v : Value) (l : List Gr) (x1 x2 x3 : Int) (hown : OwnA w B v l) (hl : l.length ≤ 1000000) (hB : B ≤ w.heap.size) :
    ∃ b n c w', (Builtin.append_ #[22, 22] 22 #[v, .slice (some ⟨w.heap.size, 0, none⟩) 1 1]).run Tryd.prog (w.alloc (.cells #[.int .i64 x1, .int .i64 x2, .int .i64 x3] 88)) = .ok (.slice b n c) w' ∧ OwnA w' B (.slice b n c) (l ++ [(x1, x2, x3)]) ∧ Below B w w' := by
  obtain ⟨b, n, c, w', hr, ho, hb⟩ := app_A 22 (w.alloc (.cells (encG (x1, x2, x3)).toArray 88)) B v l (hown.alloc _) (some ⟨w.heap.size, 0, none⟩) 1 [(x1, x2, x3)] (rows_one (enc := encG) w (x1, x2, x3)) (by omega) (by simp) (by rw [World.size_alloc]; omega)
  exact ⟨b, n, c, w', hr, ho, ((Below.refl _ _).alloc hB _).trans hb⟩
set_option maxRecDepth 100000 in
set_option maxHeartbeats 2000000 in
theorem find_any (la mo : Int) (a : Option Addr) (c : Nat) (l : List Gr) (n : Int) (w : World) (hp : GrA w a l) (ord : OrdG l) (hm : l.length ≤ 1000000) :
    Calls Tryd.prog 41 #[.agg #[.int .i64 la, .int .i64 mo, .slice a l.length c], .int .i64 n] w fun e w' => e = .returned (.agg (encG (rowL n l)).toArray) ∧ Below w.heap.size w w' := by
  have HP := Lib.hid hp
  have HY := Lib.hid (fun (k : Nat) (hk : k < l.length) (h : (l.getD k g0).1 = n) => show rowL n l = l.getD k g0 from by have q := has_at ord hk; rw [h] at q; unfold rowL; rw [if_pos q.1, q.2])
  have HNO := Lib.hid (fun (h : ∀ j, j < l.length → (l.getD j g0).1 ≠ n) => show rowL n l = (n, 0, 0) from by
    unfold rowL
    by_cases q : hasG n l = true
    · have := has_yes q
      exact absurd this.2 (h _ this.1)
    · rw [if_neg q])
  obtain ⟨R, hR⟩ : ∃ R, rowL n l = R := ⟨_, rfl⟩
  rw [hR] at HNO ⊢
  simp only [hR] at HY
  obtain ⟨r1, r2, r3⟩ := R
  obtain ⟨N, hN⟩ : ∃ N, l.length = N := ⟨_, rfl⟩
  have HE := Lib.hid hN
  simp only [hN] at HY HNO
  rw [hN] at hm ⊢
  clear hp ord hN hR
  go_enter Tryd.func41, Tryd.ntmps41
  obtain ⟨G, hG⟩ : ∃ G, w.heap.size = G := ⟨_, rfl⟩
  have HG := Lib.hid hG
  obtain ⟨w0, hw0, Kg, Kr, B⟩ : ∃ X, ((w.alloc (.cells #[.int .i64 la, .int .i64 mo, .slice a N c] 24)).alloc (.cells #[.int .i64 0, .int .i64 0, .int .i64 0] 88)) = X ∧ Hid (Blk X (G) 24 #[.int .i64 la, .int .i64 mo, .slice a N c]) ∧ Hid (Blk X (G + 1) 88 #[.int .i64 0, .int .i64 0, .int .i64 0]) ∧ Hid (Below w.heap.size w X) := ⟨_, rfl, Lib.hid ((Blk.new' _ _ _ _ hG rfl).alloc _), Lib.hid (Blk.new' _ _ _ _ (by rw [World.size_alloc, hG]) rfl), Lib.hid (by (repeat' (first | (with_reducible exact Below.refl _ _) | (with_reducible assumption) | (with_reducible refine Below.alloc ?_ ?_ _) | (with_reducible refine Below.drew ?_) | (with_reducible refine below_dn ?_) | (with_reducible refine Below.setCell ?_ ?_ _) | (with_reducible exact Nat.le_refl _) | omega | (simp only [World.size_alloc, World.size_setCell, World.size_drew]; omega) | (simp; omega) | (simp; done))))⟩
  go_upto_region 1 with (fail)
  try rw [hG]
  try rw [hw0]
  clear hw0 hG
  obtain ⟨bgc0, bgc1, bgc2⟩ := three Kg.out
  obtain ⟨brc0, brc1, brc2⟩ := three Kr.out
  go_wp2
  go_loopw [5] (fun u5 wr => ∃ k : Nat, k ≤ N ∧ u5 = .int .i64 k ∧ Hid (∀ j, j < k → (l.getD j g0).1 ≠ n) ∧ Hid (Blk wr G 24 #[.int .i64 la, .int .i64 mo, .slice a N c]) ∧ Hid (Blk wr (G + 1) 88 #[.int .i64 0, .int .i64 0, .int .i64 0]) ∧ Hid (Below w.heap.size w wr)) (fun u5 _ => (N - intOf u5).toNat)
  case atStart => exact ⟨0, by omega, rfl, fun j hj => absurd hj (by omega), Kg, Kr, B⟩
  case round =>
    clear bgc0 bgc1 bgc2 brc0 brc1 brc2 Kg Kr B
    obtain ⟨k, hk, rfl, HJ, Kg, Kr, B⟩ := hrel
    obtain ⟨bgc0, bgc1, bgc2⟩ := three Kg.out
    obtain ⟨brc0, brc1, brc2⟩ := three Kr.out
    have fzr := fun q => Kr.out.frozen q
    by_cases hlt : k < N
    · have t0 : decide ((k : Int) < (N : Int)) = true := decide_eq_true (by omega)
      have wk : IntKind.i64.wrap ((k : Int) + 1) = (k : Int) + 1 := by rw [IntKind.wrap_i64]; omega
      obtain ⟨b, off, rfl, q0, q1, q2⟩ := at_ (HP.out.mono B.out) (k := k) (by rw [HE.out]; exact hlt)
      have HYk := Lib.hid (HY.out k hlt)
      have HJk := Lib.hid (fun (h : (l.getD k g0).1 ≠ n) (j : Nat) (hj : j < k + 1) => show (l.getD j g0).1 ≠ n from by
        rcases Nat.lt_or_ge j k with q | q
        · exact HJ.out j q
        · obtain rfl : j = k := by omega
          exact h)
      obtain ⟨y, hy⟩ : ∃ y, l.getD k g0 = y := ⟨_, rfl⟩
      rw [hy] at q0 q1 q2 HYk HJk
      clear hy
      obtain ⟨y1, y2, y3⟩ := y
      simp only at q0 q1 q2
      have k0 : (0 : Int) ≤ (k : Int) := by omega
      have kN : (k : Int) < (N : Int) := by omega
      by_cases hyn : y1 = n
      · have t1 : (y1 == n) = true := beq_iff_eq.2 hyn
        have ee := HYk.out hyn
        injection ee with e1 ee
        injection ee with e2 e3
        subst e1 e2 e3
        have HR1 := Lib.hid hyn
        clear hyn
        clear bgc0 bgc1 bgc2 brc0 brc1 brc2 fzr
        obtain ⟨bgc0, bgc1, bgc2⟩ := three Kg.out
        obtain ⟨brc0, brc1, brc2⟩ := three Kr.out
        have fzr := fun q => Kr.out.frozen q
        replace Kr := Lib.hid (show Blk (wr.setCell ⟨G + 1, 0, none⟩ (.int .i64 r1)) (G + 1) 88 #[.int .i64 r1, .int .i64 0, .int .i64 0] from Kr.out.set_ 0 (.int .i64 r1))
        replace Kg := Lib.hid (show Blk (wr.setCell ⟨G + 1, 0, none⟩ (.int .i64 r1)) (G) _ _ from Kg.out.far (p := ⟨G + 1, 0, none⟩) (by simp; try omega) (.int .i64 r1))
        replace B := Lib.hid (show Below w.heap.size w (wr.setCell ⟨G + 1, 0, none⟩ (.int .i64 r1)) from B.out.setCell (p := ⟨G + 1, 0, none⟩) (show w.heap.size ≤ G + 1 by have := HG.out; omega) (.int .i64 r1))
        replace Kr := Lib.hid (show Blk ((wr.setCell ⟨G + 1, 0, none⟩ (.int .i64 r1)).setCell ⟨G + 1, 1, none⟩ (.int .i64 r2)) (G + 1) 88 #[.int .i64 r1, .int .i64 r2, .int .i64 0] from Kr.out.set_ 1 (.int .i64 r2))
        replace Kg := Lib.hid (show Blk ((wr.setCell ⟨G + 1, 0, none⟩ (.int .i64 r1)).setCell ⟨G + 1, 1, none⟩ (.int .i64 r2)) (G) _ _ from Kg.out.far (p := ⟨G + 1, 1, none⟩) (by simp; try omega) (.int .i64 r2))
        replace B := Lib.hid (show Below w.heap.size w ((wr.setCell ⟨G + 1, 0, none⟩ (.int .i64 r1)).setCell ⟨G + 1, 1, none⟩ (.int .i64 r2)) from B.out.setCell (p := ⟨G + 1, 1, none⟩) (show w.heap.size ≤ G + 1 by have := HG.out; omega) (.int .i64 r2))
        replace Kr := Lib.hid (show Blk (((wr.setCell ⟨G + 1, 0, none⟩ (.int .i64 r1)).setCell ⟨G + 1, 1, none⟩ (.int .i64 r2)).setCell ⟨G + 1, 2, none⟩ (.int .i64 r3)) (G + 1) 88 #[.int .i64 r1, .int .i64 r2, .int .i64 r3] from Kr.out.set_ 2 (.int .i64 r3))
        replace Kg := Lib.hid (show Blk (((wr.setCell ⟨G + 1, 0, none⟩ (.int .i64 r1)).setCell ⟨G + 1, 1, none⟩ (.int .i64 r2)).setCell ⟨G + 1, 2, none⟩ (.int .i64 r3)) (G) _ _ from Kg.out.far (p := ⟨G + 1, 2, none⟩) (by simp; try omega) (.int .i64 r3))
        replace B := Lib.hid (show Below w.heap.size w (((wr.setCell ⟨G + 1, 0, none⟩ (.int .i64 r1)).setCell ⟨G + 1, 1, none⟩ (.int .i64 r2)).setCell ⟨G + 1, 2, none⟩ (.int .i64 r3)) from B.out.setCell (p := ⟨G + 1, 2, none⟩) (show w.heap.size ≤ G + 1 by have := HG.out; omega) (.int .i64 r3))
        go_wp2
        generalize hw : (((wr.setCell ⟨G + 1, 0, none⟩ (.int .i64 r1)).setCell ⟨G + 1, 1, none⟩ (.int .i64 r2)).setCell ⟨G + 1, 2, none⟩ (.int .i64 r3)) = w21 at Kg Kr B ⊢
        clear bgc0 bgc1 bgc2 brc0 brc1 brc2 fzr
        clear hw
        obtain ⟨d0, d1, d2⟩ := three Kr.out
        refine bodyPost_ret (by simp [results, Tryd.results41, go_sem, d0, d1, d2]; try rfl) rfl ?_
        exact ⟨rfl, B.out⟩
      · have t1 : (y1 == n) = false := beq_eq_false_iff_ne.2 hyn
        have HK := Lib.hid (HJk.out hyn)
        clear hyn HYk HJk
        go_wp2
        go_roundw
        case rel => exact ⟨k + 1, by omega, by go_num, HK, Kg, Kr, B⟩
        case measure => simp [intOf]; omega
    · have hkN : N = k := by omega
      subst hkN
      have t0 : decide ((N : Int) < (N : Int)) = false := decide_eq_false (by omega)
      have ee := HNO.out HJ.out
      injection ee with e1 ee
      injection ee with e2 e3
      subst e1 e2 e3
      clear hlt hk
      clear bgc0 bgc1 bgc2 brc0 brc1 brc2 fzr
      obtain ⟨bgc0, bgc1, bgc2⟩ := three Kg.out
      obtain ⟨brc0, brc1, brc2⟩ := three Kr.out
      have fzr := fun q => Kr.out.frozen q
      replace Kr := Lib.hid (show Blk (wr.setCell ⟨G + 1, 0, none⟩ (.int .i64 r1)) (G + 1) 88 #[.int .i64 r1, .int .i64 0, .int .i64 0] from Kr.out.set_ 0 (.int .i64 r1))
      replace Kg := Lib.hid (show Blk (wr.setCell ⟨G + 1, 0, none⟩ (.int .i64 r1)) (G) _ _ from Kg.out.far (p := ⟨G + 1, 0, none⟩) (by simp; try omega) (.int .i64 r1))
      replace B := Lib.hid (show Below w.heap.size w (wr.setCell ⟨G + 1, 0, none⟩ (.int .i64 r1)) from B.out.setCell (p := ⟨G + 1, 0, none⟩) (show w.heap.size ≤ G + 1 by have := HG.out; omega) (.int .i64 r1))
      replace Kr := Lib.hid (show Blk ((wr.setCell ⟨G + 1, 0, none⟩ (.int .i64 r1)).setCell ⟨G + 1, 1, none⟩ (.int .i64 0)) (G + 1) 88 #[.int .i64 r1, .int .i64 0, .int .i64 0] from Kr.out.set_ 1 (.int .i64 0))
      replace Kg := Lib.hid (show Blk ((wr.setCell ⟨G + 1, 0, none⟩ (.int .i64 r1)).setCell ⟨G + 1, 1, none⟩ (.int .i64 0)) (G) _ _ from Kg.out.far (p := ⟨G + 1, 1, none⟩) (by simp; try omega) (.int .i64 0))
      replace B := Lib.hid (show Below w.heap.size w ((wr.setCell ⟨G + 1, 0, none⟩ (.int .i64 r1)).setCell ⟨G + 1, 1, none⟩ (.int .i64 0)) from B.out.setCell (p := ⟨G + 1, 1, none⟩) (show w.heap.size ≤ G + 1 by have := HG.out; omega) (.int .i64 0))
      replace Kr := Lib.hid (show Blk (((wr.setCell ⟨G + 1, 0, none⟩ (.int .i64 r1)).setCell ⟨G + 1, 1, none⟩ (.int .i64 0)).setCell ⟨G + 1, 2, none⟩ (.int .i64 0)) (G + 1) 88 #[.int .i64 r1, .int .i64 0, .int .i64 0] from Kr.out.set_ 2 (.int .i64 0))
      replace Kg := Lib.hid (show Blk (((wr.setCell ⟨G + 1, 0, none⟩ (.int .i64 r1)).setCell ⟨G + 1, 1, none⟩ (.int .i64 0)).setCell ⟨G + 1, 2, none⟩ (.int .i64 0)) (G) _ _ from Kg.out.far (p := ⟨G + 1, 2, none⟩) (by simp; try omega) (.int .i64 0))
      replace B := Lib.hid (show Below w.heap.size w (((wr.setCell ⟨G + 1, 0, none⟩ (.int .i64 r1)).setCell ⟨G + 1, 1, none⟩ (.int .i64 0)).setCell ⟨G + 1, 2, none⟩ (.int .i64 0)) from B.out.setCell (p := ⟨G + 1, 2, none⟩) (show w.heap.size ≤ G + 1 by have := HG.out; omega) (.int .i64 0))
      go_wp2
      generalize hw : (((wr.setCell ⟨G + 1, 0, none⟩ (.int .i64 r1)).setCell ⟨G + 1, 1, none⟩ (.int .i64 0)).setCell ⟨G + 1, 2, none⟩ (.int .i64 0)) = w31 at Kg Kr B ⊢
      clear bgc0 bgc1 bgc2 brc0 brc1 brc2 fzr
      clear hw
      obtain ⟨d0, d1, d2⟩ := three Kr.out
      refine bodyPost_ret (by simp [results, Tryd.results41, go_sem, d0, d1, d2]; try rfl) rfl ?_
      exact ⟨rfl, B.out⟩
/-- One round of put. -/
def putS (r : List Gr × Bool) (x y : Gr) : List Gr × Bool :=
  let o := if r.2 = false ∧ x.1 ≤ y.1 then (r.1 ++ [x], true) else r
  if y.1 ≠ x.1 then (o.1 ++ [y], o.2) else o
theorem putS_len (r : List Gr × Bool) (x y : Gr) : (putS r x y).1.length ≤ r.1.length + 2 := by
  unfold putS
  simp only
  split <;> split <;> simp <;> omega
theorem putK_len (l : List Gr) (x : Gr) : ∀ k : Nat, (putK l x k).1.length ≤ 2 * k
  | 0 => by simp [putK]
  | k + 1 => by
    have h := putK_len l x k
    have h2 := putS_len (putK l x k) x (l.getD k g0)
    have e : putK l x (k + 1) = putS (putK l x k) x (l.getD k g0) := rfl
    rw [e]
    omega
set_option maxRecDepth 100000 in
set_option maxHeartbeats 2000000 in
theorem put_any (la mo : Int) (a : Option Addr) (c : Nat) (l : List Gr) (x : Gr) (w : World) (hp : GrA w a l) (hm : l.length ≤ 10000) :
    Calls Tryd.prog 42 #[.agg #[.int .i64 la, .int .i64 mo, .slice a l.length c], .agg (encG x).toArray] w fun e w' => (∃ a' c', e = .returned (.agg #[.int .i64 la, .int .i64 mo, .slice a' (putL l x).length c']) ∧ GrA w' a' (putL l x) ∧ ∀ p, a' = some p → w.heap.size ≤ p.block) ∧ Below w.heap.size w w' := by
  obtain ⟨x1, x2, x3⟩ := x
  simp only [encG]
  have HP := Lib.hid hp
  obtain ⟨N, hN⟩ : ∃ N, l.length = N := ⟨_, rfl⟩
  have HE := Lib.hid hN
  have HL := Lib.hid (show putL l (x1, x2, x3) = (if (putK l (x1, x2, x3) l.length).2 = false then (putK l (x1, x2, x3) l.length).1 ++ [(x1, x2, x3)] else (putK l (x1, x2, x3) l.length).1) from rfl)
  obtain ⟨PL, hPL⟩ : ∃ L, putL l (x1, x2, x3) = L := ⟨_, rfl⟩
  rw [hPL] at HL ⊢
  rw [hN] at hm HL ⊢
  have HM := Lib.hid hm
  clear hp hN hPL hm
  go_enter Tryd.func42, Tryd.ntmps42
  obtain ⟨G, hG⟩ : ∃ G, w.heap.size = G := ⟨_, rfl⟩
  have HG := Lib.hid hG
  obtain ⟨w0, hw0, Kg, Kx, Kr, B⟩ : ∃ X, (((w.alloc (.cells #[.int .i64 la, .int .i64 mo, .slice a N c] 24)).alloc (.cells #[.int .i64 x1, .int .i64 x2, .int .i64 x3] 88)).alloc (.cells #[.int .i64 0, .int .i64 0, .slice none 0 0] 24)) = X ∧ Hid (Blk X (G) 24 #[.int .i64 la, .int .i64 mo, .slice a N c]) ∧ Hid (Blk X (G + 1) 88 #[.int .i64 x1, .int .i64 x2, .int .i64 x3]) ∧ Hid (Blk X (G + 1 + 1) 24 #[.int .i64 0, .int .i64 0, .slice none 0 0]) ∧ Hid (Below w.heap.size w X) := ⟨_, rfl, Lib.hid (((Blk.new' _ _ _ _ hG rfl).alloc _).alloc _), Lib.hid ((Blk.new' _ _ _ _ (by rw [World.size_alloc, hG]) rfl).alloc _), Lib.hid (Blk.new' _ _ _ _ (by rw [World.size_alloc, World.size_alloc, hG]) rfl), Lib.hid (by (repeat' (first | (with_reducible exact Below.refl _ _) | (with_reducible assumption) | (with_reducible refine Below.alloc ?_ ?_ _) | (with_reducible refine Below.drew ?_) | (with_reducible refine below_dn ?_) | (with_reducible refine Below.setCell ?_ ?_ _) | (with_reducible exact Nat.le_refl _) | omega | (simp only [World.size_alloc, World.size_setCell, World.size_drew]; omega) | (simp; omega) | (simp; done))))⟩
  go_upto_region 1 with (fail)
  try rw [hG]
  try rw [hw0]
  clear hw0 hG
  obtain ⟨Z, hZ⟩ : ∃ Z, w0.heap.size = Z := ⟨_, rfl⟩
  have HZ := Lib.hid (show G + 1 + 1 < Z by have := Kr.out.lt; omega)
  have Y := Lib.hid (show Z ≤ w0.heap.size by omega)
  clear hZ
  have LEN := Lib.hid (fun (k : Nat) => putK_len l (x1, x2, x3) k)
  obtain ⟨bgc0, bgc1, bgc2⟩ := three Kg.out
  obtain ⟨bxc0, bxc1, bxc2⟩ := three Kx.out
  obtain ⟨brc0, brc1, brc2⟩ := three Kr.out
  go_wp2
  go_loopw [5, 6, 7] (fun u5 u6 u7 wr => ∃ k : Nat, k ≤ N ∧ u7 = .int .i64 k ∧ u6 = .bool (putK l (x1, x2, x3) k).2 ∧ Hid (OwnA wr Z u5 (putK l (x1, x2, x3) k).1) ∧ Hid (Blk wr G 24 #[.int .i64 la, .int .i64 mo, .slice a N c]) ∧ Hid (Blk wr (G + 1) 88 #[.int .i64 x1, .int .i64 x2, .int .i64 x3]) ∧ Hid (Blk wr (G + 1 + 1) 24 #[.int .i64 0, .int .i64 0, .slice none 0 0]) ∧ Hid (Z ≤ wr.heap.size) ∧ Hid (Below w.heap.size w wr)) (fun _ _ u7 _ => (N - intOf u7).toNat)
  case atStart => exact ⟨0, by omega, rfl, rfl, OwnR.nil _ _ _ _ _, Kg, Kx, Kr, Y, B⟩
  case round =>
    clear bgc0 bgc1 bgc2 bxc0 bxc1 bxc2 brc0 brc1 brc2 Kg Kx Kr Y B
    obtain ⟨k, hk, rfl, rfl, O, Kg, Kx, Kr, Y, B⟩ := hrel
    have LN := Lib.hid (show (putK l (x1, x2, x3) k).1.length ≤ 20002 by have := LEN.out k; have := HM.out; omega)
    by_cases hlt : k < N
    · have t0 : decide ((k : Int) < (N : Int)) = true := decide_eq_true (by omega)
      have wk : IntKind.i64.wrap ((k : Int) + 1) = (k : Int) + 1 := by have := HM.out; rw [IntKind.wrap_i64]; omega
      obtain ⟨b, off, rfl, -, -, -⟩ := at_ (HP.out.mono B.out) (k := k) (by rw [HE.out]; exact hlt)
      have QY := Lib.hid (fun (X : World) (hb : Below w.heap.size w X) => cells_ (HP.out.mono hb) (k := k) (by rw [HE.out]; exact hlt) rfl)
      have ST := Lib.hid (show putK l (x1, x2, x3) (k + 1) = putS (putK l (x1, x2, x3) k) (x1, x2, x3) (l.getD k g0) from rfl)
      obtain ⟨y, hy⟩ : ∃ y, l.getD k g0 = y := ⟨_, rfl⟩
      rw [hy] at ST
      simp only [hy] at QY
      clear hy
      obtain ⟨y1, y2, y3⟩ := y
      simp only at QY
      obtain ⟨q, hq⟩ : ∃ q, putK l (x1, x2, x3) k = q := ⟨_, rfl⟩
      rw [hq] at ST O LN ⊢
      clear hq
      obtain ⟨q1, q2⟩ := q
      simp only at O LN ⊢
      have k0 : (0 : Int) ≤ (k : Int) := by omega
      have kN : (k : Int) < (N : Int) := by have := HE.out; omega
      by_cases h2 : y1 = x1
      · cases q2
        · have h1 : x1 ≤ y1 := by omega
          have tn : (y1 != x1) = false := by simp [h2]
          have tl : decide (x1 ≤ y1) = true := decide_eq_true h1
          obtain ⟨bgc0, bgc1, bgc2⟩ := three Kg.out
          obtain ⟨bxc0, bxc1, bxc2⟩ := three Kx.out
          obtain ⟨q0, q1c, q2c⟩ := QY.out _ B.out
          go_upto_region 6 with (fail)
          go_region
          go_upto_region 7 with (fail)
          replace Kg := Lib.hid Kg.out.drew
          replace Kx := Lib.hid Kx.out.drew
          replace Kr := Lib.hid Kr.out.drew
          replace O := Lib.hid (OwnR.drew O.out)
          replace B := Lib.hid B.out.drew
          replace Y := Lib.hid (show Z ≤ wr.drew.heap.size from Y.out)
          generalize wr.drew = z1 at Kg Kx Kr O B Y ⊢
          clear bgc0 bgc1 bgc2 bxc0 bxc1 bxc2 q0 q1c q2c
          obtain ⟨bgc0, bgc1, bgc2⟩ := three Kg.out
          obtain ⟨bxc0, bxc1, bxc2⟩ := three Kx.out
          obtain ⟨q0, q1c, q2c⟩ := QY.out _ B.out
          obtain ⟨b3, n3, c3, z2, hr, ho, hb⟩ := app_oneG z1 Z _ _ x1 x2 x3 O.out (by have := LN.out; simp; omega) Y.out
          have HR1 := Lib.hid hr
          go_upto_region 9 with (at_builtin; refine wpList_app_run rfl _ _ 22 22 rfl _ _ _ z2 rfl rfl HR1.out ?_)
          replace Kg := Lib.hid (show Blk z2 G _ _ from (hb.block G (by have := HZ.out; omega)).trans Kg.out)
          replace Kx := Lib.hid (show Blk z2 (G + 1) _ _ from (hb.block (G + 1) (by have := HZ.out; omega)).trans Kx.out)
          replace Kr := Lib.hid (show Blk z2 (G + 1 + 1) _ _ from (hb.block (G + 1 + 1) (by have := HZ.out; omega)).trans Kr.out)
          replace O := Lib.hid ho
          replace B := Lib.hid (B.out.trans (hb.mono (by have := HZ.out; have := HG.out; omega)))
          replace Y := Lib.hid (Nat.le_trans Y.out hb.size)
          clear hr ho hb HR1
          clear bgc0 bgc1 bgc2 bxc0 bxc1 bxc2 q0 q1c q2c
          obtain ⟨bgc0, bgc1, bgc2⟩ := three Kg.out
          obtain ⟨bxc0, bxc1, bxc2⟩ := three Kx.out
          obtain ⟨q0, q1c, q2c⟩ := QY.out _ B.out
          go_region
          go_upto_region 5 with (fail)
          replace Kg := Lib.hid Kg.out.drew
          replace Kx := Lib.hid Kx.out.drew
          replace Kr := Lib.hid Kr.out.drew
          replace O := Lib.hid (OwnR.drew O.out)
          replace B := Lib.hid B.out.drew
          replace Y := Lib.hid (show Z ≤ z2.drew.heap.size from Y.out)
          generalize z2.drew = z4 at Kg Kx Kr O B Y ⊢
          clear bgc0 bgc1 bgc2 bxc0 bxc1 bxc2 q0 q1c q2c
          have H1 := Lib.hid h1
          have H2 := Lib.hid h2
          clear h2 tn h1 tl
          obtain ⟨bgc0, bgc1, bgc2⟩ := three Kg.out
          obtain ⟨bxc0, bxc1, bxc2⟩ := three Kx.out
          obtain ⟨q0, q1c, q2c⟩ := QY.out _ B.out
          go_wp2
          clear bgc0 bgc1 bgc2 bxc0 bxc1 bxc2 q0 q1c q2c
          have DE := Lib.hid (show putK l (x1, x2, x3) (k + 1) = (q1 ++ [(x1, x2, x3)], true) by rw [ST.out]; simp [putS, H1.out, H2.out])
          go_roundw
          case rel => exact ⟨k + 1, by omega, by go_num, by rw [DE.out], by rw [DE.out]; exact O, Kg, Kx, Kr, Y, B⟩
          case measure => simp [intOf]; omega
        · have tn : (y1 != x1) = false := by simp [h2]
          obtain ⟨bgc0, bgc1, bgc2⟩ := three Kg.out
          obtain ⟨bxc0, bxc1, bxc2⟩ := three Kx.out
          obtain ⟨q0, q1c, q2c⟩ := QY.out _ B.out
          go_upto_region 6 with (fail)
          go_region
          go_upto_region 9 with (fail)
          replace Kg := Lib.hid Kg.out.drew
          replace Kx := Lib.hid Kx.out.drew
          replace Kr := Lib.hid Kr.out.drew
          replace O := Lib.hid (OwnR.drew O.out)
          replace B := Lib.hid B.out.drew
          replace Y := Lib.hid (show Z ≤ wr.drew.heap.size from Y.out)
          generalize wr.drew = z1 at Kg Kx Kr O B Y ⊢
          clear bgc0 bgc1 bgc2 bxc0 bxc1 bxc2 q0 q1c q2c
          obtain ⟨bgc0, bgc1, bgc2⟩ := three Kg.out
          obtain ⟨bxc0, bxc1, bxc2⟩ := three Kx.out
          obtain ⟨q0, q1c, q2c⟩ := QY.out _ B.out
          go_region
          go_upto_region 5 with (fail)
          replace Kg := Lib.hid Kg.out.drew
          replace Kx := Lib.hid Kx.out.drew
          replace Kr := Lib.hid Kr.out.drew
          replace O := Lib.hid (OwnR.drew O.out)
          replace B := Lib.hid B.out.drew
          replace Y := Lib.hid (show Z ≤ z1.drew.heap.size from Y.out)
          generalize z1.drew = z2 at Kg Kx Kr O B Y ⊢
          clear bgc0 bgc1 bgc2 bxc0 bxc1 bxc2 q0 q1c q2c
          skip
          have H2 := Lib.hid h2
          clear h2 tn
          obtain ⟨bgc0, bgc1, bgc2⟩ := three Kg.out
          obtain ⟨bxc0, bxc1, bxc2⟩ := three Kx.out
          obtain ⟨q0, q1c, q2c⟩ := QY.out _ B.out
          go_wp2
          clear bgc0 bgc1 bgc2 bxc0 bxc1 bxc2 q0 q1c q2c
          have DE := Lib.hid (show putK l (x1, x2, x3) (k + 1) = (q1, true) by rw [ST.out]; simp [putS, H2.out])
          go_roundw
          case rel => exact ⟨k + 1, by omega, by go_num, by rw [DE.out], by rw [DE.out]; exact O, Kg, Kx, Kr, Y, B⟩
          case measure => simp [intOf]; omega
      · cases q2
        · by_cases h1 : x1 ≤ y1
          · have tn : (y1 != x1) = true := by simp [h2]
            have tl : decide (x1 ≤ y1) = true := decide_eq_true h1
            obtain ⟨bgc0, bgc1, bgc2⟩ := three Kg.out
            obtain ⟨bxc0, bxc1, bxc2⟩ := three Kx.out
            obtain ⟨q0, q1c, q2c⟩ := QY.out _ B.out
            go_upto_region 6 with (fail)
            go_region
            go_upto_region 7 with (fail)
            replace Kg := Lib.hid Kg.out.drew
            replace Kx := Lib.hid Kx.out.drew
            replace Kr := Lib.hid Kr.out.drew
            replace O := Lib.hid (OwnR.drew O.out)
            replace B := Lib.hid B.out.drew
            replace Y := Lib.hid (show Z ≤ wr.drew.heap.size from Y.out)
            generalize wr.drew = z1 at Kg Kx Kr O B Y ⊢
            clear bgc0 bgc1 bgc2 bxc0 bxc1 bxc2 q0 q1c q2c
            obtain ⟨bgc0, bgc1, bgc2⟩ := three Kg.out
            obtain ⟨bxc0, bxc1, bxc2⟩ := three Kx.out
            obtain ⟨q0, q1c, q2c⟩ := QY.out _ B.out
            obtain ⟨b3, n3, c3, z2, hr, ho, hb⟩ := app_oneG z1 Z _ _ x1 x2 x3 O.out (by have := LN.out; simp; omega) Y.out
            have HR1 := Lib.hid hr
            go_upto_region 9 with (at_builtin; refine wpList_app_run rfl _ _ 22 22 rfl _ _ _ z2 rfl rfl HR1.out ?_)
            replace Kg := Lib.hid (show Blk z2 G _ _ from (hb.block G (by have := HZ.out; omega)).trans Kg.out)
            replace Kx := Lib.hid (show Blk z2 (G + 1) _ _ from (hb.block (G + 1) (by have := HZ.out; omega)).trans Kx.out)
            replace Kr := Lib.hid (show Blk z2 (G + 1 + 1) _ _ from (hb.block (G + 1 + 1) (by have := HZ.out; omega)).trans Kr.out)
            replace O := Lib.hid ho
            replace B := Lib.hid (B.out.trans (hb.mono (by have := HZ.out; have := HG.out; omega)))
            replace Y := Lib.hid (Nat.le_trans Y.out hb.size)
            clear hr ho hb HR1
            clear bgc0 bgc1 bgc2 bxc0 bxc1 bxc2 q0 q1c q2c
            obtain ⟨bgc0, bgc1, bgc2⟩ := three Kg.out
            obtain ⟨bxc0, bxc1, bxc2⟩ := three Kx.out
            obtain ⟨q0, q1c, q2c⟩ := QY.out _ B.out
            go_region
            go_upto_region 10 with (fail)
            replace Kg := Lib.hid Kg.out.drew
            replace Kx := Lib.hid Kx.out.drew
            replace Kr := Lib.hid Kr.out.drew
            replace O := Lib.hid (OwnR.drew O.out)
            replace B := Lib.hid B.out.drew
            replace Y := Lib.hid (show Z ≤ z2.drew.heap.size from Y.out)
            generalize z2.drew = z4 at Kg Kx Kr O B Y ⊢
            clear bgc0 bgc1 bgc2 bxc0 bxc1 bxc2 q0 q1c q2c
            obtain ⟨bgc0, bgc1, bgc2⟩ := three Kg.out
            obtain ⟨bxc0, bxc1, bxc2⟩ := three Kx.out
            obtain ⟨q0, q1c, q2c⟩ := QY.out _ B.out
            obtain ⟨b6, n6, c6, z5, hr, ho, hb⟩ := app_oneG z4 Z _ _ y1 y2 y3 O.out (by have := LN.out; simp; omega) Y.out
            have HR1 := Lib.hid hr
            go_upto_region 5 with (at_builtin; refine wpList_app_run rfl _ _ 22 22 rfl _ _ _ z5 rfl rfl HR1.out ?_)
            replace Kg := Lib.hid (show Blk z5 G _ _ from (hb.block G (by have := HZ.out; omega)).trans Kg.out)
            replace Kx := Lib.hid (show Blk z5 (G + 1) _ _ from (hb.block (G + 1) (by have := HZ.out; omega)).trans Kx.out)
            replace Kr := Lib.hid (show Blk z5 (G + 1 + 1) _ _ from (hb.block (G + 1 + 1) (by have := HZ.out; omega)).trans Kr.out)
            replace O := Lib.hid ho
            replace B := Lib.hid (B.out.trans (hb.mono (by have := HZ.out; have := HG.out; omega)))
            replace Y := Lib.hid (Nat.le_trans Y.out hb.size)
            clear hr ho hb HR1
            clear bgc0 bgc1 bgc2 bxc0 bxc1 bxc2 q0 q1c q2c
            have H1 := Lib.hid h1
            have H2 := Lib.hid h2
            clear h2 tn h1 tl
            obtain ⟨bgc0, bgc1, bgc2⟩ := three Kg.out
            obtain ⟨bxc0, bxc1, bxc2⟩ := three Kx.out
            obtain ⟨q0, q1c, q2c⟩ := QY.out _ B.out
            go_wp2
            clear bgc0 bgc1 bgc2 bxc0 bxc1 bxc2 q0 q1c q2c
            have DE := Lib.hid (show putK l (x1, x2, x3) (k + 1) = (q1 ++ [(x1, x2, x3)] ++ [(y1, y2, y3)], true) by rw [ST.out]; simp [putS, H1.out, H2.out])
            go_roundw
            case rel => exact ⟨k + 1, by omega, by go_num, by rw [DE.out], by rw [DE.out]; exact O, Kg, Kx, Kr, Y, B⟩
            case measure => simp [intOf]; omega
          · have tn : (y1 != x1) = true := by simp [h2]
            have tl : decide (x1 ≤ y1) = false := decide_eq_false h1
            obtain ⟨bgc0, bgc1, bgc2⟩ := three Kg.out
            obtain ⟨bxc0, bxc1, bxc2⟩ := three Kx.out
            obtain ⟨q0, q1c, q2c⟩ := QY.out _ B.out
            go_upto_region 6 with (fail)
            go_region
            go_upto_region 9 with (fail)
            replace Kg := Lib.hid Kg.out.drew
            replace Kx := Lib.hid Kx.out.drew
            replace Kr := Lib.hid Kr.out.drew
            replace O := Lib.hid (OwnR.drew O.out)
            replace B := Lib.hid B.out.drew
            replace Y := Lib.hid (show Z ≤ wr.drew.heap.size from Y.out)
            generalize wr.drew = z1 at Kg Kx Kr O B Y ⊢
            clear bgc0 bgc1 bgc2 bxc0 bxc1 bxc2 q0 q1c q2c
            obtain ⟨bgc0, bgc1, bgc2⟩ := three Kg.out
            obtain ⟨bxc0, bxc1, bxc2⟩ := three Kx.out
            obtain ⟨q0, q1c, q2c⟩ := QY.out _ B.out
            go_region
            go_upto_region 10 with (fail)
            replace Kg := Lib.hid Kg.out.drew
            replace Kx := Lib.hid Kx.out.drew
            replace Kr := Lib.hid Kr.out.drew
            replace O := Lib.hid (OwnR.drew O.out)
            replace B := Lib.hid B.out.drew
            replace Y := Lib.hid (show Z ≤ z1.drew.heap.size from Y.out)
            generalize z1.drew = z2 at Kg Kx Kr O B Y ⊢
            clear bgc0 bgc1 bgc2 bxc0 bxc1 bxc2 q0 q1c q2c
            obtain ⟨bgc0, bgc1, bgc2⟩ := three Kg.out
            obtain ⟨bxc0, bxc1, bxc2⟩ := three Kx.out
            obtain ⟨q0, q1c, q2c⟩ := QY.out _ B.out
            obtain ⟨b4, n4, c4, z3, hr, ho, hb⟩ := app_oneG z2 Z _ _ y1 y2 y3 O.out (by have := LN.out; simp; omega) Y.out
            have HR1 := Lib.hid hr
            go_upto_region 5 with (at_builtin; refine wpList_app_run rfl _ _ 22 22 rfl _ _ _ z3 rfl rfl HR1.out ?_)
            replace Kg := Lib.hid (show Blk z3 G _ _ from (hb.block G (by have := HZ.out; omega)).trans Kg.out)
            replace Kx := Lib.hid (show Blk z3 (G + 1) _ _ from (hb.block (G + 1) (by have := HZ.out; omega)).trans Kx.out)
            replace Kr := Lib.hid (show Blk z3 (G + 1 + 1) _ _ from (hb.block (G + 1 + 1) (by have := HZ.out; omega)).trans Kr.out)
            replace O := Lib.hid ho
            replace B := Lib.hid (B.out.trans (hb.mono (by have := HZ.out; have := HG.out; omega)))
            replace Y := Lib.hid (Nat.le_trans Y.out hb.size)
            clear hr ho hb HR1
            clear bgc0 bgc1 bgc2 bxc0 bxc1 bxc2 q0 q1c q2c
            have H1 := Lib.hid h1
            have H2 := Lib.hid h2
            clear h2 tn h1 tl
            obtain ⟨bgc0, bgc1, bgc2⟩ := three Kg.out
            obtain ⟨bxc0, bxc1, bxc2⟩ := three Kx.out
            obtain ⟨q0, q1c, q2c⟩ := QY.out _ B.out
            go_wp2
            clear bgc0 bgc1 bgc2 bxc0 bxc1 bxc2 q0 q1c q2c
            have DE := Lib.hid (show putK l (x1, x2, x3) (k + 1) = (q1 ++ [(y1, y2, y3)], false) by rw [ST.out]; simp [putS, H1.out, H2.out])
            go_roundw
            case rel => exact ⟨k + 1, by omega, by go_num, by rw [DE.out], by rw [DE.out]; exact O, Kg, Kx, Kr, Y, B⟩
            case measure => simp [intOf]; omega
        · have tn : (y1 != x1) = true := by simp [h2]
          obtain ⟨bgc0, bgc1, bgc2⟩ := three Kg.out
          obtain ⟨bxc0, bxc1, bxc2⟩ := three Kx.out
          obtain ⟨q0, q1c, q2c⟩ := QY.out _ B.out
          go_upto_region 6 with (fail)
          go_region
          go_upto_region 9 with (fail)
          replace Kg := Lib.hid Kg.out.drew
          replace Kx := Lib.hid Kx.out.drew
          replace Kr := Lib.hid Kr.out.drew
          replace O := Lib.hid (OwnR.drew O.out)
          replace B := Lib.hid B.out.drew
          replace Y := Lib.hid (show Z ≤ wr.drew.heap.size from Y.out)
          generalize wr.drew = z1 at Kg Kx Kr O B Y ⊢
          clear bgc0 bgc1 bgc2 bxc0 bxc1 bxc2 q0 q1c q2c
          obtain ⟨bgc0, bgc1, bgc2⟩ := three Kg.out
          obtain ⟨bxc0, bxc1, bxc2⟩ := three Kx.out
          obtain ⟨q0, q1c, q2c⟩ := QY.out _ B.out
          go_region
          go_upto_region 10 with (fail)
          replace Kg := Lib.hid Kg.out.drew
          replace Kx := Lib.hid Kx.out.drew
          replace Kr := Lib.hid Kr.out.drew
          replace O := Lib.hid (OwnR.drew O.out)
          replace B := Lib.hid B.out.drew
          replace Y := Lib.hid (show Z ≤ z1.drew.heap.size from Y.out)
          generalize z1.drew = z2 at Kg Kx Kr O B Y ⊢
          clear bgc0 bgc1 bgc2 bxc0 bxc1 bxc2 q0 q1c q2c
          obtain ⟨bgc0, bgc1, bgc2⟩ := three Kg.out
          obtain ⟨bxc0, bxc1, bxc2⟩ := three Kx.out
          obtain ⟨q0, q1c, q2c⟩ := QY.out _ B.out
          obtain ⟨b4, n4, c4, z3, hr, ho, hb⟩ := app_oneG z2 Z _ _ y1 y2 y3 O.out (by have := LN.out; simp; omega) Y.out
          have HR1 := Lib.hid hr
          go_upto_region 5 with (at_builtin; refine wpList_app_run rfl _ _ 22 22 rfl _ _ _ z3 rfl rfl HR1.out ?_)
          replace Kg := Lib.hid (show Blk z3 G _ _ from (hb.block G (by have := HZ.out; omega)).trans Kg.out)
          replace Kx := Lib.hid (show Blk z3 (G + 1) _ _ from (hb.block (G + 1) (by have := HZ.out; omega)).trans Kx.out)
          replace Kr := Lib.hid (show Blk z3 (G + 1 + 1) _ _ from (hb.block (G + 1 + 1) (by have := HZ.out; omega)).trans Kr.out)
          replace O := Lib.hid ho
          replace B := Lib.hid (B.out.trans (hb.mono (by have := HZ.out; have := HG.out; omega)))
          replace Y := Lib.hid (Nat.le_trans Y.out hb.size)
          clear hr ho hb HR1
          clear bgc0 bgc1 bgc2 bxc0 bxc1 bxc2 q0 q1c q2c
          skip
          have H2 := Lib.hid h2
          clear h2 tn
          obtain ⟨bgc0, bgc1, bgc2⟩ := three Kg.out
          obtain ⟨bxc0, bxc1, bxc2⟩ := three Kx.out
          obtain ⟨q0, q1c, q2c⟩ := QY.out _ B.out
          go_wp2
          clear bgc0 bgc1 bgc2 bxc0 bxc1 bxc2 q0 q1c q2c
          have DE := Lib.hid (show putK l (x1, x2, x3) (k + 1) = (q1 ++ [(y1, y2, y3)], true) by rw [ST.out]; simp [putS, H2.out])
          go_roundw
          case rel => exact ⟨k + 1, by omega, by go_num, by rw [DE.out], by rw [DE.out]; exact O, Kg, Kx, Kr, Y, B⟩
          case measure => simp [intOf]; omega
    · have hkN : N = k := by omega
      subst hkN
      have t0 : decide ((N : Int) < (N : Int)) = false := decide_eq_false (by omega)
      clear hlt hk
      obtain ⟨q, hq⟩ : ∃ q, putK l (x1, x2, x3) N = q := ⟨_, rfl⟩
      rw [hq] at HL O LN ⊢
      clear hq
      obtain ⟨q1, q2⟩ := q
      simp only at HL O LN ⊢
      cases q2
      · have HL2 := Lib.hid (show PL = q1 ++ [(x1, x2, x3)] by rw [HL.out]; simp)
        obtain ⟨bgc0, bgc1, bgc2⟩ := three Kg.out
        obtain ⟨bxc0, bxc1, bxc2⟩ := three Kx.out
        obtain ⟨b2, n2, c2, z1, hr, ho, hb⟩ := app_oneG wr Z _ _ x1 x2 x3 O.out (by have := LN.out; simp; omega) Y.out
        have HR1 := Lib.hid hr
        go_upto_region 13 with (at_builtin; refine wpList_app_run rfl _ _ 22 22 rfl _ _ _ z1 rfl rfl HR1.out ?_)
        replace Kg := Lib.hid (show Blk z1 G _ _ from (hb.block G (by have := HZ.out; omega)).trans Kg.out)
        replace Kx := Lib.hid (show Blk z1 (G + 1) _ _ from (hb.block (G + 1) (by have := HZ.out; omega)).trans Kx.out)
        replace Kr := Lib.hid (show Blk z1 (G + 1 + 1) _ _ from (hb.block (G + 1 + 1) (by have := HZ.out; omega)).trans Kr.out)
        replace O := Lib.hid ho
        replace B := Lib.hid (B.out.trans (hb.mono (by have := HZ.out; have := HG.out; omega)))
        replace Y := Lib.hid (Nat.le_trans Y.out hb.size)
        clear hr ho hb HR1
        clear bgc0 bgc1 bgc2 bxc0 bxc1 bxc2
        rw [← HL2.out] at O
        obtain ⟨a6, c6, e6, -, -⟩ := OwnR.view encG_len O.out
        injection e6 with e61 e62 e63
        have f1 := e61.symm
        have f2 := e62.symm
        have f3 := e63.symm
        subst f1 f2 f3
        have Ov := O
        have Yv := Y
        skip
        have Hv := Lib.hid (show G + 3 ≤ Z by have := HZ.out; omega)
        clear O Y
        obtain ⟨bgc0, bgc1, bgc2⟩ := three Kg.out
        obtain ⟨bxc0, bxc1, bxc2⟩ := three Kx.out
        obtain ⟨brc0, brc1, brc2⟩ := three Kr.out
        have fzg := fun q => Kg.out.frozen q
        have fzr := fun q => Kr.out.frozen q
        clear bgc0 bgc1 bgc2 bxc0 bxc1 bxc2 brc0 brc1 brc2 fzg fzr
        obtain ⟨bgc0, bgc1, bgc2⟩ := three Kg.out
        obtain ⟨bxc0, bxc1, bxc2⟩ := three Kx.out
        obtain ⟨brc0, brc1, brc2⟩ := three Kr.out
        have fzg := fun q => Kg.out.frozen q
        replace Ov := Lib.hid (OwnR.far Ov.out (p := ⟨G, 2, none⟩) (show G < Z by have := Hv.out; omega) (.slice a6 PL.length c6))
        replace Yv := Lib.hid (show Z ≤ (z1.setCell ⟨G, 2, none⟩ (.slice a6 PL.length c6)).heap.size by have := Yv.out; simp only [World.size_setCell] at this ⊢; omega)
        replace Kg := Lib.hid (show Blk (z1.setCell ⟨G, 2, none⟩ (.slice a6 PL.length c6)) (G) 24 #[.int .i64 la, .int .i64 mo, .slice a6 PL.length c6] from Kg.out.set_ 2 (.slice a6 PL.length c6))
        replace Kx := Lib.hid (show Blk (z1.setCell ⟨G, 2, none⟩ (.slice a6 PL.length c6)) (G + 1) _ _ from Kx.out.far (p := ⟨G, 2, none⟩) (by simp; try omega) (.slice a6 PL.length c6))
        replace Kr := Lib.hid (show Blk (z1.setCell ⟨G, 2, none⟩ (.slice a6 PL.length c6)) (G + 1 + 1) _ _ from Kr.out.far (p := ⟨G, 2, none⟩) (by simp; try omega) (.slice a6 PL.length c6))
        replace B := Lib.hid (show Below w.heap.size w (z1.setCell ⟨G, 2, none⟩ (.slice a6 PL.length c6)) from B.out.setCell (p := ⟨G, 2, none⟩) (show w.heap.size ≤ G by have := HG.out; omega) (.slice a6 PL.length c6))
        go_upto_region 14 with (fail)
        generalize hw : (z1.setCell ⟨G, 2, none⟩ (.slice a6 PL.length c6)) = w31 at Kg Kx Kr Ov Yv B ⊢
        clear bgc0 bgc1 bgc2 bxc0 bxc1 bxc2 brc0 brc1 brc2 fzg
        clear hw
        obtain ⟨bgc0, bgc1, bgc2⟩ := three Kg.out
        obtain ⟨bxc0, bxc1, bxc2⟩ := three Kx.out
        obtain ⟨brc0, brc1, brc2⟩ := three Kr.out
        have fzg := fun q => Kg.out.frozen q
        have fzr := fun q => Kr.out.frozen q
        clear bgc0 bgc1 bgc2 bxc0 bxc1 bxc2 brc0 brc1 brc2 fzg fzr
        obtain ⟨bgc0, bgc1, bgc2⟩ := three Kg.out
        obtain ⟨bxc0, bxc1, bxc2⟩ := three Kx.out
        obtain ⟨brc0, brc1, brc2⟩ := three Kr.out
        have fzr := fun q => Kr.out.frozen q
        replace Ov := Lib.hid (OwnR.far Ov.out (p := ⟨G + 1 + 1, 0, none⟩) (show G + 1 + 1 < Z by have := Hv.out; omega) (.int .i64 la))
        replace Yv := Lib.hid (show Z ≤ (w31.setCell ⟨G + 1 + 1, 0, none⟩ (.int .i64 la)).heap.size by have := Yv.out; simp only [World.size_setCell] at this ⊢; omega)
        replace Kr := Lib.hid (show Blk (w31.setCell ⟨G + 1 + 1, 0, none⟩ (.int .i64 la)) (G + 1 + 1) 24 #[.int .i64 la, .int .i64 0, .slice none 0 0] from Kr.out.set_ 0 (.int .i64 la))
        replace Kg := Lib.hid (show Blk (w31.setCell ⟨G + 1 + 1, 0, none⟩ (.int .i64 la)) (G) _ _ from Kg.out.far (p := ⟨G + 1 + 1, 0, none⟩) (by simp; try omega) (.int .i64 la))
        replace Kx := Lib.hid (show Blk (w31.setCell ⟨G + 1 + 1, 0, none⟩ (.int .i64 la)) (G + 1) _ _ from Kx.out.far (p := ⟨G + 1 + 1, 0, none⟩) (by simp; try omega) (.int .i64 la))
        replace B := Lib.hid (show Below w.heap.size w (w31.setCell ⟨G + 1 + 1, 0, none⟩ (.int .i64 la)) from B.out.setCell (p := ⟨G + 1 + 1, 0, none⟩) (show w.heap.size ≤ G + 1 + 1 by have := HG.out; omega) (.int .i64 la))
        replace Ov := Lib.hid (OwnR.far Ov.out (p := ⟨G + 1 + 1, 1, none⟩) (show G + 1 + 1 < Z by have := Hv.out; omega) (.int .i64 mo))
        replace Yv := Lib.hid (show Z ≤ ((w31.setCell ⟨G + 1 + 1, 0, none⟩ (.int .i64 la)).setCell ⟨G + 1 + 1, 1, none⟩ (.int .i64 mo)).heap.size by have := Yv.out; simp only [World.size_setCell] at this ⊢; omega)
        replace Kr := Lib.hid (show Blk ((w31.setCell ⟨G + 1 + 1, 0, none⟩ (.int .i64 la)).setCell ⟨G + 1 + 1, 1, none⟩ (.int .i64 mo)) (G + 1 + 1) 24 #[.int .i64 la, .int .i64 mo, .slice none 0 0] from Kr.out.set_ 1 (.int .i64 mo))
        replace Kg := Lib.hid (show Blk ((w31.setCell ⟨G + 1 + 1, 0, none⟩ (.int .i64 la)).setCell ⟨G + 1 + 1, 1, none⟩ (.int .i64 mo)) (G) _ _ from Kg.out.far (p := ⟨G + 1 + 1, 1, none⟩) (by simp; try omega) (.int .i64 mo))
        replace Kx := Lib.hid (show Blk ((w31.setCell ⟨G + 1 + 1, 0, none⟩ (.int .i64 la)).setCell ⟨G + 1 + 1, 1, none⟩ (.int .i64 mo)) (G + 1) _ _ from Kx.out.far (p := ⟨G + 1 + 1, 1, none⟩) (by simp; try omega) (.int .i64 mo))
        replace B := Lib.hid (show Below w.heap.size w ((w31.setCell ⟨G + 1 + 1, 0, none⟩ (.int .i64 la)).setCell ⟨G + 1 + 1, 1, none⟩ (.int .i64 mo)) from B.out.setCell (p := ⟨G + 1 + 1, 1, none⟩) (show w.heap.size ≤ G + 1 + 1 by have := HG.out; omega) (.int .i64 mo))
        replace Ov := Lib.hid (OwnR.far Ov.out (p := ⟨G + 1 + 1, 2, none⟩) (show G + 1 + 1 < Z by have := Hv.out; omega) (.slice a6 PL.length c6))
        replace Yv := Lib.hid (show Z ≤ (((w31.setCell ⟨G + 1 + 1, 0, none⟩ (.int .i64 la)).setCell ⟨G + 1 + 1, 1, none⟩ (.int .i64 mo)).setCell ⟨G + 1 + 1, 2, none⟩ (.slice a6 PL.length c6)).heap.size by have := Yv.out; simp only [World.size_setCell] at this ⊢; omega)
        replace Kr := Lib.hid (show Blk (((w31.setCell ⟨G + 1 + 1, 0, none⟩ (.int .i64 la)).setCell ⟨G + 1 + 1, 1, none⟩ (.int .i64 mo)).setCell ⟨G + 1 + 1, 2, none⟩ (.slice a6 PL.length c6)) (G + 1 + 1) 24 #[.int .i64 la, .int .i64 mo, .slice a6 PL.length c6] from Kr.out.set_ 2 (.slice a6 PL.length c6))
        replace Kg := Lib.hid (show Blk (((w31.setCell ⟨G + 1 + 1, 0, none⟩ (.int .i64 la)).setCell ⟨G + 1 + 1, 1, none⟩ (.int .i64 mo)).setCell ⟨G + 1 + 1, 2, none⟩ (.slice a6 PL.length c6)) (G) _ _ from Kg.out.far (p := ⟨G + 1 + 1, 2, none⟩) (by simp; try omega) (.slice a6 PL.length c6))
        replace Kx := Lib.hid (show Blk (((w31.setCell ⟨G + 1 + 1, 0, none⟩ (.int .i64 la)).setCell ⟨G + 1 + 1, 1, none⟩ (.int .i64 mo)).setCell ⟨G + 1 + 1, 2, none⟩ (.slice a6 PL.length c6)) (G + 1) _ _ from Kx.out.far (p := ⟨G + 1 + 1, 2, none⟩) (by simp; try omega) (.slice a6 PL.length c6))
        replace B := Lib.hid (show Below w.heap.size w (((w31.setCell ⟨G + 1 + 1, 0, none⟩ (.int .i64 la)).setCell ⟨G + 1 + 1, 1, none⟩ (.int .i64 mo)).setCell ⟨G + 1 + 1, 2, none⟩ (.slice a6 PL.length c6)) from B.out.setCell (p := ⟨G + 1 + 1, 2, none⟩) (show w.heap.size ≤ G + 1 + 1 by have := HG.out; omega) (.slice a6 PL.length c6))
        go_wp2
        generalize hw : (((w31.setCell ⟨G + 1 + 1, 0, none⟩ (.int .i64 la)).setCell ⟨G + 1 + 1, 1, none⟩ (.int .i64 mo)).setCell ⟨G + 1 + 1, 2, none⟩ (.slice a6 PL.length c6)) = w32 at Kg Kx Kr Ov Yv B ⊢
        clear bgc0 bgc1 bgc2 bxc0 bxc1 bxc2 brc0 brc1 brc2 fzr
        clear hw
        obtain ⟨d0, d1, d2⟩ := three Kr.out
        refine bodyPost_ret (by simp [results, Tryd.results42, go_sem, d0, d1, d2]; try rfl) rfl ?_
        have FR : ∀ p, a6 = some p → w.heap.size ≤ p.block := fun p hp => by have h1 := Ov.out.lt p.block (by subst hp; rfl); have h2 := Hv.out; have h3 := HG.out; omega
        first | exact ⟨⟨a6, c6, rfl, own_rows Ov.out, FR⟩, B.out⟩ | exact ⟨⟨a6, ⟨c6, rfl⟩, own_rows Ov.out, FR⟩, B.out⟩
      · have HL2 := Lib.hid (show PL = q1 by rw [HL.out]; simp)
        rw [← HL2.out] at O
        obtain ⟨a6, c6, e6, -, -⟩ := OwnR.view encG_len O.out
        subst e6
        have Ov := O
        have Yv := Y
        skip
        have Hv := Lib.hid (show G + 3 ≤ Z by have := HZ.out; omega)
        clear O Y
        obtain ⟨bgc0, bgc1, bgc2⟩ := three Kg.out
        obtain ⟨bxc0, bxc1, bxc2⟩ := three Kx.out
        obtain ⟨brc0, brc1, brc2⟩ := three Kr.out
        have fzg := fun q => Kg.out.frozen q
        have fzr := fun q => Kr.out.frozen q
        clear bgc0 bgc1 bgc2 bxc0 bxc1 bxc2 brc0 brc1 brc2 fzg fzr
        obtain ⟨bgc0, bgc1, bgc2⟩ := three Kg.out
        obtain ⟨bxc0, bxc1, bxc2⟩ := three Kx.out
        obtain ⟨brc0, brc1, brc2⟩ := three Kr.out
        have fzg := fun q => Kg.out.frozen q
        replace Ov := Lib.hid (OwnR.far Ov.out (p := ⟨G, 2, none⟩) (show G < Z by have := Hv.out; omega) (.slice a6 PL.length c6))
        replace Yv := Lib.hid (show Z ≤ (wr.setCell ⟨G, 2, none⟩ (.slice a6 PL.length c6)).heap.size by have := Yv.out; simp only [World.size_setCell] at this ⊢; omega)
        replace Kg := Lib.hid (show Blk (wr.setCell ⟨G, 2, none⟩ (.slice a6 PL.length c6)) (G) 24 #[.int .i64 la, .int .i64 mo, .slice a6 PL.length c6] from Kg.out.set_ 2 (.slice a6 PL.length c6))
        replace Kx := Lib.hid (show Blk (wr.setCell ⟨G, 2, none⟩ (.slice a6 PL.length c6)) (G + 1) _ _ from Kx.out.far (p := ⟨G, 2, none⟩) (by simp; try omega) (.slice a6 PL.length c6))
        replace Kr := Lib.hid (show Blk (wr.setCell ⟨G, 2, none⟩ (.slice a6 PL.length c6)) (G + 1 + 1) _ _ from Kr.out.far (p := ⟨G, 2, none⟩) (by simp; try omega) (.slice a6 PL.length c6))
        replace B := Lib.hid (show Below w.heap.size w (wr.setCell ⟨G, 2, none⟩ (.slice a6 PL.length c6)) from B.out.setCell (p := ⟨G, 2, none⟩) (show w.heap.size ≤ G by have := HG.out; omega) (.slice a6 PL.length c6))
        go_upto_region 14 with (fail)
        generalize hw : (wr.setCell ⟨G, 2, none⟩ (.slice a6 PL.length c6)) = w31 at Kg Kx Kr Ov Yv B ⊢
        clear bgc0 bgc1 bgc2 bxc0 bxc1 bxc2 brc0 brc1 brc2 fzg
        clear hw
        obtain ⟨bgc0, bgc1, bgc2⟩ := three Kg.out
        obtain ⟨bxc0, bxc1, bxc2⟩ := three Kx.out
        obtain ⟨brc0, brc1, brc2⟩ := three Kr.out
        have fzg := fun q => Kg.out.frozen q
        have fzr := fun q => Kr.out.frozen q
        clear bgc0 bgc1 bgc2 bxc0 bxc1 bxc2 brc0 brc1 brc2 fzg fzr
        obtain ⟨bgc0, bgc1, bgc2⟩ := three Kg.out
        obtain ⟨bxc0, bxc1, bxc2⟩ := three Kx.out
        obtain ⟨brc0, brc1, brc2⟩ := three Kr.out
        have fzr := fun q => Kr.out.frozen q
        replace Ov := Lib.hid (OwnR.far Ov.out (p := ⟨G + 1 + 1, 0, none⟩) (show G + 1 + 1 < Z by have := Hv.out; omega) (.int .i64 la))
        replace Yv := Lib.hid (show Z ≤ (w31.setCell ⟨G + 1 + 1, 0, none⟩ (.int .i64 la)).heap.size by have := Yv.out; simp only [World.size_setCell] at this ⊢; omega)
        replace Kr := Lib.hid (show Blk (w31.setCell ⟨G + 1 + 1, 0, none⟩ (.int .i64 la)) (G + 1 + 1) 24 #[.int .i64 la, .int .i64 0, .slice none 0 0] from Kr.out.set_ 0 (.int .i64 la))
        replace Kg := Lib.hid (show Blk (w31.setCell ⟨G + 1 + 1, 0, none⟩ (.int .i64 la)) (G) _ _ from Kg.out.far (p := ⟨G + 1 + 1, 0, none⟩) (by simp; try omega) (.int .i64 la))
        replace Kx := Lib.hid (show Blk (w31.setCell ⟨G + 1 + 1, 0, none⟩ (.int .i64 la)) (G + 1) _ _ from Kx.out.far (p := ⟨G + 1 + 1, 0, none⟩) (by simp; try omega) (.int .i64 la))
        replace B := Lib.hid (show Below w.heap.size w (w31.setCell ⟨G + 1 + 1, 0, none⟩ (.int .i64 la)) from B.out.setCell (p := ⟨G + 1 + 1, 0, none⟩) (show w.heap.size ≤ G + 1 + 1 by have := HG.out; omega) (.int .i64 la))
        replace Ov := Lib.hid (OwnR.far Ov.out (p := ⟨G + 1 + 1, 1, none⟩) (show G + 1 + 1 < Z by have := Hv.out; omega) (.int .i64 mo))
        replace Yv := Lib.hid (show Z ≤ ((w31.setCell ⟨G + 1 + 1, 0, none⟩ (.int .i64 la)).setCell ⟨G + 1 + 1, 1, none⟩ (.int .i64 mo)).heap.size by have := Yv.out; simp only [World.size_setCell] at this ⊢; omega)
        replace Kr := Lib.hid (show Blk ((w31.setCell ⟨G + 1 + 1, 0, none⟩ (.int .i64 la)).setCell ⟨G + 1 + 1, 1, none⟩ (.int .i64 mo)) (G + 1 + 1) 24 #[.int .i64 la, .int .i64 mo, .slice none 0 0] from Kr.out.set_ 1 (.int .i64 mo))
        replace Kg := Lib.hid (show Blk ((w31.setCell ⟨G + 1 + 1, 0, none⟩ (.int .i64 la)).setCell ⟨G + 1 + 1, 1, none⟩ (.int .i64 mo)) (G) _ _ from Kg.out.far (p := ⟨G + 1 + 1, 1, none⟩) (by simp; try omega) (.int .i64 mo))
        replace Kx := Lib.hid (show Blk ((w31.setCell ⟨G + 1 + 1, 0, none⟩ (.int .i64 la)).setCell ⟨G + 1 + 1, 1, none⟩ (.int .i64 mo)) (G + 1) _ _ from Kx.out.far (p := ⟨G + 1 + 1, 1, none⟩) (by simp; try omega) (.int .i64 mo))
        replace B := Lib.hid (show Below w.heap.size w ((w31.setCell ⟨G + 1 + 1, 0, none⟩ (.int .i64 la)).setCell ⟨G + 1 + 1, 1, none⟩ (.int .i64 mo)) from B.out.setCell (p := ⟨G + 1 + 1, 1, none⟩) (show w.heap.size ≤ G + 1 + 1 by have := HG.out; omega) (.int .i64 mo))
        replace Ov := Lib.hid (OwnR.far Ov.out (p := ⟨G + 1 + 1, 2, none⟩) (show G + 1 + 1 < Z by have := Hv.out; omega) (.slice a6 PL.length c6))
        replace Yv := Lib.hid (show Z ≤ (((w31.setCell ⟨G + 1 + 1, 0, none⟩ (.int .i64 la)).setCell ⟨G + 1 + 1, 1, none⟩ (.int .i64 mo)).setCell ⟨G + 1 + 1, 2, none⟩ (.slice a6 PL.length c6)).heap.size by have := Yv.out; simp only [World.size_setCell] at this ⊢; omega)
        replace Kr := Lib.hid (show Blk (((w31.setCell ⟨G + 1 + 1, 0, none⟩ (.int .i64 la)).setCell ⟨G + 1 + 1, 1, none⟩ (.int .i64 mo)).setCell ⟨G + 1 + 1, 2, none⟩ (.slice a6 PL.length c6)) (G + 1 + 1) 24 #[.int .i64 la, .int .i64 mo, .slice a6 PL.length c6] from Kr.out.set_ 2 (.slice a6 PL.length c6))
        replace Kg := Lib.hid (show Blk (((w31.setCell ⟨G + 1 + 1, 0, none⟩ (.int .i64 la)).setCell ⟨G + 1 + 1, 1, none⟩ (.int .i64 mo)).setCell ⟨G + 1 + 1, 2, none⟩ (.slice a6 PL.length c6)) (G) _ _ from Kg.out.far (p := ⟨G + 1 + 1, 2, none⟩) (by simp; try omega) (.slice a6 PL.length c6))
        replace Kx := Lib.hid (show Blk (((w31.setCell ⟨G + 1 + 1, 0, none⟩ (.int .i64 la)).setCell ⟨G + 1 + 1, 1, none⟩ (.int .i64 mo)).setCell ⟨G + 1 + 1, 2, none⟩ (.slice a6 PL.length c6)) (G + 1) _ _ from Kx.out.far (p := ⟨G + 1 + 1, 2, none⟩) (by simp; try omega) (.slice a6 PL.length c6))
        replace B := Lib.hid (show Below w.heap.size w (((w31.setCell ⟨G + 1 + 1, 0, none⟩ (.int .i64 la)).setCell ⟨G + 1 + 1, 1, none⟩ (.int .i64 mo)).setCell ⟨G + 1 + 1, 2, none⟩ (.slice a6 PL.length c6)) from B.out.setCell (p := ⟨G + 1 + 1, 2, none⟩) (show w.heap.size ≤ G + 1 + 1 by have := HG.out; omega) (.slice a6 PL.length c6))
        go_wp2
        generalize hw : (((w31.setCell ⟨G + 1 + 1, 0, none⟩ (.int .i64 la)).setCell ⟨G + 1 + 1, 1, none⟩ (.int .i64 mo)).setCell ⟨G + 1 + 1, 2, none⟩ (.slice a6 PL.length c6)) = w32 at Kg Kx Kr Ov Yv B ⊢
        clear bgc0 bgc1 bgc2 bxc0 bxc1 bxc2 brc0 brc1 brc2 fzr
        clear hw
        obtain ⟨d0, d1, d2⟩ := three Kr.out
        refine bodyPost_ret (by simp [results, Tryd.results42, go_sem, d0, d1, d2]; try rfl) rfl ?_
        have FR : ∀ p, a6 = some p → w.heap.size ≤ p.block := fun p hp => by have h1 := Ov.out.lt p.block (by subst hp; rfl); have h2 := Hv.out; have h3 := HG.out; omega
        first | exact ⟨⟨a6, c6, rfl, own_rows Ov.out, FR⟩, B.out⟩ | exact ⟨⟨a6, ⟨c6, rfl⟩, own_rows Ov.out, FR⟩, B.out⟩
end Le
end Go.Proofs.YteblnmhaohbkkaaDoor
