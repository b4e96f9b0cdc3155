/- Contracts: Add of the program. -/
import Derived.Test.YtcdcnklfcmoiiaaDoorQG2
import Derived.Test.YtcdcnklfcmoiiaaDoorQK1
namespace Go.Proofs.YtcdcnklfcmoiiaaDoor
set_option linter.unusedVariables false
set_option linter.unusedSimpArgs false
open Go.RowKit Go.Sort
def addL (l : List Rw) (x : Rw) : List Rw × Int := if keyOk x then (if hasC (cR x.1 x.2.1) l = true then ([], 6) else if 1000 ≤ l.length then ([], 2) else (insL l (posC (cR x.1 x.2.1) l) x, 0)) else ([], 1)
theorem OwnR.weak {α : Type} {e k : Nat} {enc : α → List Value} {W : World} {B B' : Nat} {v : Value} {l : List α} (h : OwnR e k enc W B v l) (hb : B' ≤ B) : OwnR e k enc W B' v l :=
  ⟨h.1, h.2.elim Or.inl fun ⟨g, c, cur, h1, h2, h3⟩ => Or.inr ⟨g, c, cur, h1, Nat.le_trans hb h2, h3⟩⟩
def Rows (L : List Rw × Int) (w : World) (e : Ending) : Prop := ∃ a' c', e = .returned (.tuple #[.slice a' L.1.length c', .int .i64 L.2]) ∧ RwA w a' L.1
theorem Rows.nil (n : Int) (w : World) : Rows ([], n) w (.returned (.tuple #[.slice Option.none 0 0, .int .i64 n])) := ⟨Option.none, 0, rfl, RowsA.nil _ _ _ _⟩
theorem Rows.own {L : List Rw} {w : World} {B : Nat} {v : Value} (n : Int) (h : OwnR 24 5 encR w B v L) : Rows (L, n) w (.returned (.tuple #[v, .int .i64 n])) := by
  obtain ⟨a, c, e, -, hr⟩ := OwnR.view encR_len h
  subst e
  exact ⟨a, c, rfl, hr⟩
set_option maxRecDepth 100000 in
set_option maxHeartbeats 2000000 in
theorem add_bad (a : Option Addr) (c : Nat) (l : List Rw) (x : Rw) (w : World) (hp : RwA w a l) (ok : RingOk l) (ok2 : ¬ keyOk x) :
    Calls Tryd.prog 13 #[.slice a l.length c, .agg (encR x).toArray] w fun e w' => Rows (addL l x) w' e ∧ Below w.heap.size w w' := by
  have HP := Lib.hid hp
  obtain ⟨k1, k2, k3, k4, k5⟩ := x
  obtain ⟨N, hN⟩ : ∃ N, l.length = N := ⟨_, rfl⟩
  have HE := Lib.hid hN
  have VA := Lib.hid (fun W : World => valid_any (k1, k2, k3, k4, k5) W)
  have PL := Lib.hid (fun (X : World) (h : RwA X a l) => place_any a c l k1 k2 X h ok.ord (by have := ok.few; omega))
  have hle := posC_le (cR k1 k2) l
  have hm := ok.few
  simp only [encR] at VA ⊢
  unfold addL
  rw [if_neg ok2]
  have v1 : keyB (k1, k2, k3, k4, k5) = false := decide_eq_false ok2
  rw [v1] at VA
  rw [hN]
  clear ok2 v1 hp hN ok hle hm PL
  go_enter Tryd.func13, Tryd.ntmps13
  obtain ⟨G, hG⟩ : ∃ G, w.heap.size = G := ⟨_, rfl⟩
  have HG := Lib.hid hG
  have Kk := Lib.hid (show Blk (w.alloc (.cells #[.int .i64 k1, .int .i64 k2, .string k3, .int .i64 k4, .int .i64 k5] 24)) (G) 24 #[.int .i64 k1, .int .i64 k2, .string k3, .int .i64 k4, .int .i64 k5] from Blk.new' _ _ _ _ hG rfl)
  have B := Lib.hid (show Below w.heap.size w (w.alloc (.cells #[.int .i64 k1, .int .i64 k2, .string k3, .int .i64 k4, .int .i64 k5] 24)) by (repeat' (first | (with_reducible exact Below.refl _ _) | (with_reducible assumption) | (with_reducible refine Below.alloc ?_ ?_ _) | (with_reducible refine Below.drew ?_) | (with_reducible refine below_dn ?_) | (with_reducible refine Below.setCell ?_ ?_ _) | (with_reducible exact Nat.le_refl _) | omega | (simp only [World.size_alloc, World.size_setCell, World.size_drew]; omega) | (simp; omega) | (simp; done))))
  go_upto_region 1 with (fail)
  try rw [hG]
  generalize hw0 : (w.alloc (.cells #[.int .i64 k1, .int .i64 k2, .string k3, .int .i64 k4, .int .i64 k5] 24)) = w0 at Kk B ⊢
  clear hw0 hG
  obtain ⟨bkc0, bkc1, bkc2, bkc3, bkc4⟩ := five Kk.out
  go_wp2_with fail
  refine (VA.out _).mono ?_
  rintro e w1 ⟨rfl, hb⟩
  replace Kk := Lib.hid (Kk.out.below hb Kk.out.lt)
  replace B := Lib.hid (B.out.trans (hb.mono B.out.size))
  clear bkc0 bkc1 bkc2 bkc3 bkc4
  clear hb
  obtain ⟨bkc0, bkc1, bkc2, bkc3, bkc4⟩ := five Kk.out
  go_wp2
  go_ret2
  exact ⟨Rows.nil 1 _, B.out⟩
set_option maxRecDepth 100000 in
set_option maxHeartbeats 2000000 in
theorem add_twice (a : Option Addr) (c : Nat) (l : List Rw) (x : Rw) (w : World) (hp : RwA w a l) (ok : RingOk l) (ok2 : keyOk x) (hh : hasC (cR x.1 x.2.1) l = true) :
    Calls Tryd.prog 13 #[.slice a l.length c, .agg (encR x).toArray] w fun e w' => Rows (addL l x) w' e ∧ Below w.heap.size w w' := by
  have HP := Lib.hid hp
  obtain ⟨k1, k2, k3, k4, k5⟩ := x
  obtain ⟨N, hN⟩ : ∃ N, l.length = N := ⟨_, rfl⟩
  have HE := Lib.hid hN
  have VA := Lib.hid (fun W : World => valid_any (k1, k2, k3, k4, k5) W)
  have PL := Lib.hid (fun (X : World) (h : RwA X a l) => place_any a c l k1 k2 X h ok.ord (by have := ok.few; omega))
  have hle := posC_le (cR k1 k2) l
  have hm := ok.few
  simp only [encR] at VA ⊢
  unfold addL
  rw [if_pos ok2]
  have v1 : keyB (k1, k2, k3, k4, k5) = true := decide_eq_true ok2
  rw [v1] at VA
  simp only
  have HQ := Lib.hid (hasC_iff (cR k1 k2) l)
  obtain ⟨i, hi9⟩ : ∃ i, posC (cR k1 k2) l = i := ⟨_, rfl⟩
  rw [hi9] at hle HQ
  simp only [hi9, hN] at PL
  simp only at hh
  rw [hN] at hle hm
  rw [hh, if_pos rfl, hN]
  obtain ⟨hlt, hz⟩ := HQ.out.1 hh
  rw [hN] at hlt
  rw [cR_zero] at hz
  obtain ⟨x, hx⟩ : ∃ y, l.getD i r0 = y := ⟨_, rfl⟩
  have HX := Lib.hid hx
  rw [hx] at hz
  obtain ⟨x1, x2, x3, x4, x5⟩ := x
  simp only at hz
  have t1 : (x1 == k1) = true := beq_iff_eq.2 hz.1
  have t2 : (x2 == k2) = true := beq_iff_eq.2 hz.2
  have t0 : decide ((i : Int) < (N : Int)) = true := decide_eq_true (by omega)
  have i0 : (0 : Int) ≤ (i : Int) := by omega
  have iN : (i : Int) < (N : Int) := by omega
  clear hx ok2 v1 hp hN ok hle hm hh hi9 HQ hz
  go_enter Tryd.func13, Tryd.ntmps13
  obtain ⟨G, hG⟩ : ∃ G, w.heap.size = G := ⟨_, rfl⟩
  have HG := Lib.hid hG
  have Kk := Lib.hid (show Blk (w.alloc (.cells #[.int .i64 k1, .int .i64 k2, .string k3, .int .i64 k4, .int .i64 k5] 24)) (G) 24 #[.int .i64 k1, .int .i64 k2, .string k3, .int .i64 k4, .int .i64 k5] from Blk.new' _ _ _ _ hG rfl)
  have B := Lib.hid (show Below w.heap.size w (w.alloc (.cells #[.int .i64 k1, .int .i64 k2, .string k3, .int .i64 k4, .int .i64 k5] 24)) by (repeat' (first | (with_reducible exact Below.refl _ _) | (with_reducible assumption) | (with_reducible refine Below.alloc ?_ ?_ _) | (with_reducible refine Below.drew ?_) | (with_reducible refine below_dn ?_) | (with_reducible refine Below.setCell ?_ ?_ _) | (with_reducible exact Nat.le_refl _) | omega | (simp only [World.size_alloc, World.size_setCell, World.size_drew]; omega) | (simp; omega) | (simp; done))))
  go_upto_region 1 with (fail)
  try rw [hG]
  generalize hw0 : (w.alloc (.cells #[.int .i64 k1, .int .i64 k2, .string k3, .int .i64 k4, .int .i64 k5] 24)) = w0 at Kk B ⊢
  clear hw0 hG
  obtain ⟨bkc0, bkc1, bkc2, bkc3, bkc4⟩ := five Kk.out
  go_wp2_with fail
  refine (VA.out _).mono ?_
  rintro e w1 ⟨rfl, hb⟩
  replace Kk := Lib.hid (Kk.out.below hb Kk.out.lt)
  replace B := Lib.hid (B.out.trans (hb.mono B.out.size))
  clear bkc0 bkc1 bkc2 bkc3 bkc4
  clear hb
  obtain ⟨bkc0, bkc1, bkc2, bkc3, bkc4⟩ := five Kk.out
  go_wp2_with fail
  refine (PL.out _ (HP.out.mono B.out)).mono ?_
  rintro e w2 ⟨rfl, hb⟩
  replace Kk := Lib.hid (Kk.out.below hb Kk.out.lt)
  replace B := Lib.hid (B.out.trans (hb.mono B.out.size))
  clear bkc0 bkc1 bkc2 bkc3 bkc4
  clear hb
  obtain ⟨bkc0, bkc1, bkc2, bkc3, bkc4⟩ := five Kk.out
  obtain ⟨b, off, rfl, q0, q1, q2, q3, q4⟩ := RwA.at_ (HP.out.mono B.out) (k := i) (by rw [HE.out]; exact hlt)
  rw [HX.out] at q0 q1 q2 q3 q4
  simp only at q0 q1 q2 q3 q4
  have zq := block_lt_of_cell q0
  clear bkc0 bkc1 bkc2 bkc3 bkc4
  obtain ⟨bkc0, bkc1, bkc2, bkc3, bkc4⟩ := five Kk.out
  have gc := grow_cell3
  have zzk := Kk.out.lt
  go_wp2_with fail
  refine wp_region_quiet_below (by kernel_rfl) (by kernel_rfl) ?_
  repeat (go_big_quiet_step (fail))
  refine wpQuiet_nil ?_
  intro w3 hw'
  obtain ⟨⟨dq, osq⟩, hw''⟩ := hw'
  have hb := below_of_grow3 hw''
  clear hw'' gc zzk
  replace Kk := Lib.hid (Kk.out.below hb Kk.out.lt)
  replace B := Lib.hid (B.out.trans (hb.mono B.out.size))
  clear hb
  clear bkc0 bkc1 bkc2 bkc3 bkc4
  clear q0 q1 q2 q3 q4 zq
  obtain ⟨bkc0, bkc1, bkc2, bkc3, bkc4⟩ := five Kk.out
  go_wp2
  go_ret2
  exact ⟨Rows.nil 6 _, B.out⟩
set_option maxRecDepth 100000 in
set_option maxHeartbeats 2000000 in
theorem add_limit (a : Option Addr) (c : Nat) (l : List Rw) (x : Rw) (w : World) (hp : RwA w a l) (ok : RingOk l) (ok2 : keyOk x) (hh : ¬ hasC (cR x.1 x.2.1) l = true) (hlim : 1000 ≤ l.length) :
    Calls Tryd.prog 13 #[.slice a l.length c, .agg (encR x).toArray] w fun e w' => Rows (addL l x) w' e ∧ Below w.heap.size w w' := by
  have HP := Lib.hid hp
  obtain ⟨k1, k2, k3, k4, k5⟩ := x
  obtain ⟨N, hN⟩ : ∃ N, l.length = N := ⟨_, rfl⟩
  have HE := Lib.hid hN
  have VA := Lib.hid (fun W : World => valid_any (k1, k2, k3, k4, k5) W)
  have PL := Lib.hid (fun (X : World) (h : RwA X a l) => place_any a c l k1 k2 X h ok.ord (by have := ok.few; omega))
  have hle := posC_le (cR k1 k2) l
  have hm := ok.few
  simp only [encR] at VA ⊢
  unfold addL
  rw [if_pos ok2]
  have v1 : keyB (k1, k2, k3, k4, k5) = true := decide_eq_true ok2
  rw [v1] at VA
  simp only
  have HQ := Lib.hid (hasC_iff (cR k1 k2) l)
  obtain ⟨i, hi9⟩ : ∃ i, posC (cR k1 k2) l = i := ⟨_, rfl⟩
  rw [hi9] at hle HQ
  simp only [hi9, hN] at PL
  rw [hN] at hle hm
  have hf : ¬ hasC (cR k1 k2) l = true := hh
  rw [if_neg hf, if_pos hlim, hN]

  rw [hN] at hlim
  have t9 : decide ((1000 : Int) ≤ (N : Int)) = true := decide_eq_true (by omega)
  by_cases hlt : i < N
  · have t0 : decide ((i : Int) < (N : Int)) = true := decide_eq_true (by omega)
    have i0 : (0 : Int) ≤ (i : Int) := by omega
    have iN : (i : Int) < (N : Int) := by omega
    obtain ⟨x, hx⟩ : ∃ y, l.getD i r0 = y := ⟨_, rfl⟩
    have HX := Lib.hid hx
    have nz : ¬ (x.1 = k1 ∧ x.2.1 = k2) := fun q => hf (HQ.out.2 ⟨by rw [hN]; exact hlt, by rw [hx]; exact cR_zero.2 q⟩)
    obtain ⟨x1, x2, x3, x4, x5⟩ := x
    simp only at nz
    by_cases e1 : x1 = k1
    · have t1 : (x1 == k1) = true := beq_iff_eq.2 e1
      have t2 : (x2 == k2) = false := beq_eq_false_iff_ne.2 (fun q => nz ⟨e1, q⟩)
      clear hx ok2 v1 hp hN ok hf hh hi9 HQ e1 nz hlim
      go_enter Tryd.func13, Tryd.ntmps13
      obtain ⟨G, hG⟩ : ∃ G, w.heap.size = G := ⟨_, rfl⟩
      have HG := Lib.hid hG
      have Kk := Lib.hid (show Blk (w.alloc (.cells #[.int .i64 k1, .int .i64 k2, .string k3, .int .i64 k4, .int .i64 k5] 24)) (G) 24 #[.int .i64 k1, .int .i64 k2, .string k3, .int .i64 k4, .int .i64 k5] from Blk.new' _ _ _ _ hG rfl)
      have B := Lib.hid (show Below w.heap.size w (w.alloc (.cells #[.int .i64 k1, .int .i64 k2, .string k3, .int .i64 k4, .int .i64 k5] 24)) by (repeat' (first | (with_reducible exact Below.refl _ _) | (with_reducible assumption) | (with_reducible refine Below.alloc ?_ ?_ _) | (with_reducible refine Below.drew ?_) | (with_reducible refine below_dn ?_) | (with_reducible refine Below.setCell ?_ ?_ _) | (with_reducible exact Nat.le_refl _) | omega | (simp only [World.size_alloc, World.size_setCell, World.size_drew]; omega) | (simp; omega) | (simp; done))))
      go_upto_region 1 with (fail)
      try rw [hG]
      generalize hw0 : (w.alloc (.cells #[.int .i64 k1, .int .i64 k2, .string k3, .int .i64 k4, .int .i64 k5] 24)) = w0 at Kk B ⊢
      clear hw0 hG
      obtain ⟨bkc0, bkc1, bkc2, bkc3, bkc4⟩ := five Kk.out
      go_wp2_with fail
      refine (VA.out _).mono ?_
      rintro e w1 ⟨rfl, hb⟩
      replace Kk := Lib.hid (Kk.out.below hb Kk.out.lt)
      replace B := Lib.hid (B.out.trans (hb.mono B.out.size))
      clear bkc0 bkc1 bkc2 bkc3 bkc4
      clear hb
      obtain ⟨bkc0, bkc1, bkc2, bkc3, bkc4⟩ := five Kk.out
      go_wp2_with fail
      refine (PL.out _ (HP.out.mono B.out)).mono ?_
      rintro e w2 ⟨rfl, hb⟩
      replace Kk := Lib.hid (Kk.out.below hb Kk.out.lt)
      replace B := Lib.hid (B.out.trans (hb.mono B.out.size))
      clear bkc0 bkc1 bkc2 bkc3 bkc4
      clear hb
      obtain ⟨bkc0, bkc1, bkc2, bkc3, bkc4⟩ := five Kk.out
      obtain ⟨b, off, rfl, q0, q1, q2, q3, q4⟩ := RwA.at_ (HP.out.mono B.out) (k := i) (by rw [HE.out]; exact hlt)
      rw [HX.out] at q0 q1 q2 q3 q4
      simp only at q0 q1 q2 q3 q4
      have zq := block_lt_of_cell q0
      clear bkc0 bkc1 bkc2 bkc3 bkc4
      obtain ⟨bkc0, bkc1, bkc2, bkc3, bkc4⟩ := five Kk.out
      have gc := grow_cell3
      have zzk := Kk.out.lt
      go_wp2_with fail
      refine wp_region_quiet_below (by kernel_rfl) (by kernel_rfl) ?_
      repeat (go_big_quiet_step (fail))
      refine wpQuiet_nil ?_
      intro w3 hw'
      obtain ⟨⟨dq, osq⟩, hw''⟩ := hw'
      have hb := below_of_grow3 hw''
      clear hw'' gc zzk
      replace Kk := Lib.hid (Kk.out.below hb Kk.out.lt)
      replace B := Lib.hid (B.out.trans (hb.mono B.out.size))
      clear hb
      clear bkc0 bkc1 bkc2 bkc3 bkc4
      clear q0 q1 q2 q3 q4 zq
      obtain ⟨bkc0, bkc1, bkc2, bkc3, bkc4⟩ := five Kk.out
      go_wp2
      go_ret2
      exact ⟨Rows.nil 2 _, B.out⟩
    · have t1 : (x1 == k1) = false := beq_eq_false_iff_ne.2 e1
      clear hx ok2 v1 hp hN ok hf hh hi9 HQ e1 nz hlim
      go_enter Tryd.func13, Tryd.ntmps13
      obtain ⟨G, hG⟩ : ∃ G, w.heap.size = G := ⟨_, rfl⟩
      have HG := Lib.hid hG
      have Kk := Lib.hid (show Blk (w.alloc (.cells #[.int .i64 k1, .int .i64 k2, .string k3, .int .i64 k4, .int .i64 k5] 24)) (G) 24 #[.int .i64 k1, .int .i64 k2, .string k3, .int .i64 k4, .int .i64 k5] from Blk.new' _ _ _ _ hG rfl)
      have B := Lib.hid (show Below w.heap.size w (w.alloc (.cells #[.int .i64 k1, .int .i64 k2, .string k3, .int .i64 k4, .int .i64 k5] 24)) by (repeat' (first | (with_reducible exact Below.refl _ _) | (with_reducible assumption) | (with_reducible refine Below.alloc ?_ ?_ _) | (with_reducible refine Below.drew ?_) | (with_reducible refine below_dn ?_) | (with_reducible refine Below.setCell ?_ ?_ _) | (with_reducible exact Nat.le_refl _) | omega | (simp only [World.size_alloc, World.size_setCell, World.size_drew]; omega) | (simp; omega) | (simp; done))))
      go_upto_region 1 with (fail)
      try rw [hG]
      generalize hw0 : (w.alloc (.cells #[.int .i64 k1, .int .i64 k2, .string k3, .int .i64 k4, .int .i64 k5] 24)) = w0 at Kk B ⊢
      clear hw0 hG
      obtain ⟨bkc0, bkc1, bkc2, bkc3, bkc4⟩ := five Kk.out
      go_wp2_with fail
      refine (VA.out _).mono ?_
      rintro e w1 ⟨rfl, hb⟩
      replace Kk := Lib.hid (Kk.out.below hb Kk.out.lt)
      replace B := Lib.hid (B.out.trans (hb.mono B.out.size))
      clear bkc0 bkc1 bkc2 bkc3 bkc4
      clear hb
      obtain ⟨bkc0, bkc1, bkc2, bkc3, bkc4⟩ := five Kk.out
      go_wp2_with fail
      refine (PL.out _ (HP.out.mono B.out)).mono ?_
      rintro e w2 ⟨rfl, hb⟩
      replace Kk := Lib.hid (Kk.out.below hb Kk.out.lt)
      replace B := Lib.hid (B.out.trans (hb.mono B.out.size))
      clear bkc0 bkc1 bkc2 bkc3 bkc4
      clear hb
      obtain ⟨bkc0, bkc1, bkc2, bkc3, bkc4⟩ := five Kk.out
      obtain ⟨b, off, rfl, q0, q1, q2, q3, q4⟩ := RwA.at_ (HP.out.mono B.out) (k := i) (by rw [HE.out]; exact hlt)
      rw [HX.out] at q0 q1 q2 q3 q4
      simp only at q0 q1 q2 q3 q4
      have zq := block_lt_of_cell q0
      clear bkc0 bkc1 bkc2 bkc3 bkc4
      obtain ⟨bkc0, bkc1, bkc2, bkc3, bkc4⟩ := five Kk.out
      have gc := grow_cell3
      have zzk := Kk.out.lt
      go_wp2_with fail
      refine wp_region_quiet_below (by kernel_rfl) (by kernel_rfl) ?_
      repeat (go_big_quiet_step (fail))
      refine wpQuiet_nil ?_
      intro w3 hw'
      obtain ⟨⟨dq, osq⟩, hw''⟩ := hw'
      have hb := below_of_grow3 hw''
      clear hw'' gc zzk
      replace Kk := Lib.hid (Kk.out.below hb Kk.out.lt)
      replace B := Lib.hid (B.out.trans (hb.mono B.out.size))
      clear hb
      clear bkc0 bkc1 bkc2 bkc3 bkc4
      clear q0 q1 q2 q3 q4 zq
      obtain ⟨bkc0, bkc1, bkc2, bkc3, bkc4⟩ := five Kk.out
      go_wp2
      go_ret2
      exact ⟨Rows.nil 2 _, B.out⟩
  · have t0 : decide ((i : Int) < (N : Int)) = false := decide_eq_false (by omega)
    have t0n : decide (i < N) = false := decide_eq_false (by omega)
    clear ok2 v1 hp hN ok hf hh hi9 HQ hlt hlim
    go_enter Tryd.func13, Tryd.ntmps13
    obtain ⟨G, hG⟩ : ∃ G, w.heap.size = G := ⟨_, rfl⟩
    have HG := Lib.hid hG
    have Kk := Lib.hid (show Blk (w.alloc (.cells #[.int .i64 k1, .int .i64 k2, .string k3, .int .i64 k4, .int .i64 k5] 24)) (G) 24 #[.int .i64 k1, .int .i64 k2, .string k3, .int .i64 k4, .int .i64 k5] from Blk.new' _ _ _ _ hG rfl)
    have B := Lib.hid (show Below w.heap.size w (w.alloc (.cells #[.int .i64 k1, .int .i64 k2, .string k3, .int .i64 k4, .int .i64 k5] 24)) by (repeat' (first | (with_reducible exact Below.refl _ _) | (with_reducible assumption) | (with_reducible refine Below.alloc ?_ ?_ _) | (with_reducible refine Below.drew ?_) | (with_reducible refine below_dn ?_) | (with_reducible refine Below.setCell ?_ ?_ _) | (with_reducible exact Nat.le_refl _) | omega | (simp only [World.size_alloc, World.size_setCell, World.size_drew]; omega) | (simp; omega) | (simp; done))))
    go_upto_region 1 with (fail)
    try rw [hG]
    generalize hw0 : (w.alloc (.cells #[.int .i64 k1, .int .i64 k2, .string k3, .int .i64 k4, .int .i64 k5] 24)) = w0 at Kk B ⊢
    clear hw0 hG
    obtain ⟨bkc0, bkc1, bkc2, bkc3, bkc4⟩ := five Kk.out
    go_wp2_with fail
    refine (VA.out _).mono ?_
    rintro e w1 ⟨rfl, hb⟩
    replace Kk := Lib.hid (Kk.out.below hb Kk.out.lt)
    replace B := Lib.hid (B.out.trans (hb.mono B.out.size))
    clear bkc0 bkc1 bkc2 bkc3 bkc4
    clear hb
    obtain ⟨bkc0, bkc1, bkc2, bkc3, bkc4⟩ := five Kk.out
    go_wp2_with fail
    refine (PL.out _ (HP.out.mono B.out)).mono ?_
    rintro e w2 ⟨rfl, hb⟩
    replace Kk := Lib.hid (Kk.out.below hb Kk.out.lt)
    replace B := Lib.hid (B.out.trans (hb.mono B.out.size))
    clear bkc0 bkc1 bkc2 bkc3 bkc4
    clear hb
    obtain ⟨bkc0, bkc1, bkc2, bkc3, bkc4⟩ := five Kk.out
    clear bkc0 bkc1 bkc2 bkc3 bkc4
    obtain ⟨bkc0, bkc1, bkc2, bkc3, bkc4⟩ := five Kk.out
    have gc := grow_cell3
    have zzk := Kk.out.lt
    go_wp2_with fail
    refine wp_region_quiet_below (by kernel_rfl) (by kernel_rfl) ?_
    repeat (go_big_quiet_step (fail))
    refine wpQuiet_nil ?_
    intro w3 hw'
    obtain ⟨⟨dq, osq⟩, hw''⟩ := hw'
    have hb := below_of_grow3 hw''
    clear hw'' gc zzk
    replace Kk := Lib.hid (Kk.out.below hb Kk.out.lt)
    replace B := Lib.hid (B.out.trans (hb.mono B.out.size))
    clear hb
    clear bkc0 bkc1 bkc2 bkc3 bkc4
    obtain ⟨bkc0, bkc1, bkc2, bkc3, bkc4⟩ := five Kk.out
    go_wp2
    go_ret2
    exact ⟨Rows.nil 2 _, B.out⟩
set_option maxRecDepth 100000 in
set_option maxHeartbeats 8000000 in
theorem add_ok (a : Option Addr) (c : Nat) (l : List Rw) (x : Rw) (w : World) (hp : RwA w a l) (ok : RingOk l) (ok2 : keyOk x) (hh : ¬ hasC (cR x.1 x.2.1) l = true) (hlim : ¬ 1000 ≤ l.length) :
    Calls Tryd.prog 13 #[.slice a l.length c, .agg (encR x).toArray] w fun e w' => Rows (addL l x) w' e ∧ Below w.heap.size w w' := by
  have HP := Lib.hid hp
  obtain ⟨k1, k2, k3, k4, k5⟩ := x
  obtain ⟨N, hN⟩ : ∃ N, l.length = N := ⟨_, rfl⟩
  have HE := Lib.hid hN
  have VA := Lib.hid (fun W : World => valid_any (k1, k2, k3, k4, k5) W)
  have PL := Lib.hid (fun (X : World) (h : RwA X a l) => place_any a c l k1 k2 X h ok.ord (by have := ok.few; omega))
  have hle := posC_le (cR k1 k2) l
  have hm := ok.few
  simp only [encR] at VA ⊢
  unfold addL
  rw [if_pos ok2]
  have v1 : keyB (k1, k2, k3, k4, k5) = true := decide_eq_true ok2
  rw [v1] at VA
  simp only
  have HQ := Lib.hid (hasC_iff (cR k1 k2) l)
  obtain ⟨i, hi9⟩ : ∃ i, posC (cR k1 k2) l = i := ⟨_, rfl⟩
  rw [hi9] at hle HQ
  simp only [hi9, hN] at PL
  rw [hN] at hle hm
  have hf : ¬ hasC (cR k1 k2) l = true := hh
  rw [if_neg hf, if_neg hlim, hN]
  rw [hi9]
  rw [hN] at hlim
  have t9 : decide ((1000 : Int) ≤ (N : Int)) = false := decide_eq_false (by omega)
  by_cases hlt : i < N
  · have t0 : decide ((i : Int) < (N : Int)) = true := decide_eq_true (by omega)
    have i0 : (0 : Int) ≤ (i : Int) := by omega
    have iN : (i : Int) < (N : Int) := by omega
    obtain ⟨x, hx⟩ : ∃ y, l.getD i r0 = y := ⟨_, rfl⟩
    have HX := Lib.hid hx
    have nz : ¬ (x.1 = k1 ∧ x.2.1 = k2) := fun q => hf (HQ.out.2 ⟨by rw [hN]; exact hlt, by rw [hx]; exact cR_zero.2 q⟩)
    obtain ⟨x1, x2, x3, x4, x5⟩ := x
    simp only at nz
    by_cases e1 : x1 = k1
    · have t1 : (x1 == k1) = true := beq_iff_eq.2 e1
      have t2 : (x2 == k2) = false := beq_eq_false_iff_ne.2 (fun q => nz ⟨e1, q⟩)
      clear hx ok2 v1 hp hN ok hf hh hi9 HQ e1 nz hlim
      go_enter Tryd.func13, Tryd.ntmps13
      obtain ⟨G, hG⟩ : ∃ G, w.heap.size = G := ⟨_, rfl⟩
      have HG := Lib.hid hG
      have Kk := Lib.hid (show Blk (w.alloc (.cells #[.int .i64 k1, .int .i64 k2, .string k3, .int .i64 k4, .int .i64 k5] 24)) (G) 24 #[.int .i64 k1, .int .i64 k2, .string k3, .int .i64 k4, .int .i64 k5] from Blk.new' _ _ _ _ hG rfl)
      have B := Lib.hid (show Below w.heap.size w (w.alloc (.cells #[.int .i64 k1, .int .i64 k2, .string k3, .int .i64 k4, .int .i64 k5] 24)) by (repeat' (first | (with_reducible exact Below.refl _ _) | (with_reducible assumption) | (with_reducible refine Below.alloc ?_ ?_ _) | (with_reducible refine Below.drew ?_) | (with_reducible refine below_dn ?_) | (with_reducible refine Below.setCell ?_ ?_ _) | (with_reducible exact Nat.le_refl _) | omega | (simp only [World.size_alloc, World.size_setCell, World.size_drew]; omega) | (simp; omega) | (simp; done))))
      go_upto_region 1 with (fail)
      try rw [hG]
      generalize hw0 : (w.alloc (.cells #[.int .i64 k1, .int .i64 k2, .string k3, .int .i64 k4, .int .i64 k5] 24)) = w0 at Kk B ⊢
      clear hw0 hG
      obtain ⟨bkc0, bkc1, bkc2, bkc3, bkc4⟩ := five Kk.out
      go_wp2_with fail
      refine (VA.out _).mono ?_
      rintro e w1 ⟨rfl, hb⟩
      replace Kk := Lib.hid (Kk.out.below hb Kk.out.lt)
      replace B := Lib.hid (B.out.trans (hb.mono B.out.size))
      clear bkc0 bkc1 bkc2 bkc3 bkc4
      clear hb
      obtain ⟨bkc0, bkc1, bkc2, bkc3, bkc4⟩ := five Kk.out
      go_wp2_with fail
      refine (PL.out _ (HP.out.mono B.out)).mono ?_
      rintro e w2 ⟨rfl, hb⟩
      replace Kk := Lib.hid (Kk.out.below hb Kk.out.lt)
      replace B := Lib.hid (B.out.trans (hb.mono B.out.size))
      clear bkc0 bkc1 bkc2 bkc3 bkc4
      clear hb
      obtain ⟨bkc0, bkc1, bkc2, bkc3, bkc4⟩ := five Kk.out
      obtain ⟨b, off, rfl, q0, q1, q2, q3, q4⟩ := RwA.at_ (HP.out.mono B.out) (k := i) (by rw [HE.out]; exact hlt)
      rw [HX.out] at q0 q1 q2 q3 q4
      simp only at q0 q1 q2 q3 q4
      have zq := block_lt_of_cell q0
      clear bkc0 bkc1 bkc2 bkc3 bkc4
      obtain ⟨bkc0, bkc1, bkc2, bkc3, bkc4⟩ := five Kk.out
      have gc := grow_cell3
      have zzk := Kk.out.lt
      go_wp2_with fail
      refine wp_region_quiet_below (by kernel_rfl) (by kernel_rfl) ?_
      repeat (go_big_quiet_step (fail))
      refine wpQuiet_nil ?_
      intro w3 hw'
      obtain ⟨⟨dq, osq⟩, hw''⟩ := hw'
      have hb := below_of_grow3 hw''
      clear hw'' gc zzk
      replace Kk := Lib.hid (Kk.out.below hb Kk.out.lt)
      replace B := Lib.hid (B.out.trans (hb.mono B.out.size))
      clear hb
      clear bkc0 bkc1 bkc2 bkc3 bkc4
      clear q0 q1 q2 q3 q4 zq
      obtain ⟨bkc0, bkc1, bkc2, bkc3, bkc4⟩ := five Kk.out
      clear bkc0 bkc1 bkc2 bkc3 bkc4
      obtain ⟨bkc0, bkc1, bkc2, bkc3, bkc4⟩ := five Kk.out
      go_upto_region 8 with (fail)
      have CL := Lib.hid (fun (X : World) (h : Below w3.heap.size w3 X) => Ke.clone_any _ c l X (HP.out.mono (B.out.trans (h.mono B.out.size))) (by rw [HE.out]; omega))
      simp only [HE.out] at CL
      have IN := Lib.hid (fun (v : Value) (vb : Nat) (X : World) (ho : Ke.OwnA X w3.heap.size v l) (hx : Blk X vb 24 #[.int .i64 k1, .int .i64 k2, .string k3, .int .i64 k4, .int .i64 k5]) (hv : ∀ k, v.ownBlock = some k → vb ≠ k) (hs : w3.heap.size ≤ X.heap.size) => Ke.ins_any v l i (k1, k2, k3, k4, k5) vb w3.heap.size X ho (by rw [HE.out]; exact hle) (by rw [HE.out]; omega) hs hx hv)
      have BX1 := Lib.hid (show Below w3.heap.size w3 w3.drew from by (repeat' (first | (with_reducible exact Below.refl _ _) | (with_reducible assumption) | (with_reducible refine Below.alloc ?_ ?_ _) | (with_reducible refine Below.drew ?_) | (with_reducible refine below_dn ?_) | (with_reducible refine Below.setCell ?_ ?_ _) | (with_reducible exact Nat.le_refl _) | omega | (simp only [World.size_alloc, World.size_setCell, World.size_drew]; omega) | (simp; omega) | (simp; done))))
      have BX2 := Lib.hid (show Below w3.heap.size w3 (w3.drew.alloc (.cells #[.int .i64 k1, .int .i64 k2, .string k3, .int .i64 k4, .int .i64 k5] 24)) from by (repeat' (first | (with_reducible exact Below.refl _ _) | (with_reducible assumption) | (with_reducible refine Below.alloc ?_ ?_ _) | (with_reducible refine Below.drew ?_) | (with_reducible refine below_dn ?_) | (with_reducible refine Below.setCell ?_ ?_ _) | (with_reducible exact Nat.le_refl _) | omega | (simp only [World.size_alloc, World.size_setCell, World.size_drew]; omega) | (simp; omega) | (simp; done))))
      have BX3 := Lib.hid (show Below w3.heap.size w3 (w3.alloc (.cells #[.int .i64 k1, .int .i64 k2, .string k3, .int .i64 k4, .int .i64 k5] 24)).drew from by (repeat' (first | (with_reducible exact Below.refl _ _) | (with_reducible assumption) | (with_reducible refine Below.alloc ?_ ?_ _) | (with_reducible refine Below.drew ?_) | (with_reducible refine below_dn ?_) | (with_reducible refine Below.setCell ?_ ?_ _) | (with_reducible exact Nat.le_refl _) | omega | (simp only [World.size_alloc, World.size_setCell, World.size_drew]; omega) | (simp; omega) | (simp; done))))
      have BX4 := Lib.hid (show Below w3.heap.size w3 w3 from by (repeat' (first | (with_reducible exact Below.refl _ _) | (with_reducible assumption) | (with_reducible refine Below.alloc ?_ ?_ _) | (with_reducible refine Below.drew ?_) | (with_reducible refine below_dn ?_) | (with_reducible refine Below.setCell ?_ ?_ _) | (with_reducible exact Nat.le_refl _) | omega | (simp only [World.size_alloc, World.size_setCell, World.size_drew]; omega) | (simp; omega) | (simp; done))))
      go_cut [4, 5] from 43 to 49 (fun u u5 wx => u5 = .int .i64 0 ∧ ∃ b9 n9 c9, u = .slice b9 n9 c9 ∧ Hid (Ke.OwnA wx w3.heap.size (.slice b9 n9 c9) (insL l i (k1, k2, k3, k4, k5))) ∧ Hid (Below w3.heap.size w3 wx))
      case first =>
        go_region_with (first | (go_at_call 59; (first | (with_reducible refine (CL.out _ BX1.out).mono ?_) | (with_reducible refine (CL.out _ BX2.out).mono ?_) | (with_reducible refine (CL.out _ BX3.out).mono ?_) | (with_reducible refine (CL.out _ BX4.out).mono ?_)); rintro e wd ⟨v, rfl, ho, hb⟩; have BV := Lib.hid (show Below w3.heap.size w3 wd from by refine Below.trans ?_ (hb.mono ?_) <;> (repeat' (first | (with_reducible exact Below.refl _ _) | (with_reducible assumption) | (with_reducible refine Below.alloc ?_ ?_ _) | (with_reducible refine Below.drew ?_) | (with_reducible refine below_dn ?_) | (with_reducible refine Below.setCell ?_ ?_ _) | (with_reducible exact Nat.le_refl _) | omega | (simp only [World.size_alloc, World.size_setCell, World.size_drew]; omega) | (simp; omega) | (simp; done)))); have HV := Lib.hid (fun k hk => own_lt ho k hk); have HO := Lib.hid (OwnR.weak ho (show w3.heap.size ≤ _ by first | exact Nat.le_refl _ | (simp only [World.size_alloc, World.size_drew]; omega))); have KD := Lib.hid (Kk.out.below BV.out Kk.out.lt); obtain ⟨y0, y1, y2, y3, y4⟩ := five KD.out; have I1 := Lib.hid (IN.out v wd.heap.size (wd.alloc (.cells #[.int .i64 k1, .int .i64 k2, .string k3, .int .i64 k4, .int .i64 k5] 24)) (HO.out.alloc _) (Blk.new' wd _ _ _ rfl rfl) (fun k hk => by have := HV.out k hk; omega) (by have := BV.out.size; rw [World.size_alloc]; omega)); (try (refine (have OZ : Hid (Blk wd w3.heap.size 24 #[.int .i64 k1, .int .i64 k2, .string k3, .int .i64 k4, .int .i64 k5]) := ?hz; ?_); (case hz => first | exact Lib.hid (Blk.below (Blk.new' _ _ _ _ rfl rfl) hb (by simp)) | exact Lib.hid (Blk.below (Blk.drew (Blk.new' _ _ _ _ rfl rfl)) hb (by simp))); (try (have I2 := Lib.hid (IN.out v w3.heap.size wd HO.out OZ.out (fun k hk => by have := HV.out k hk; simp at this; omega) BV.out.size))))); clear hb ho) | (go_at_call 58; (first | (with_reducible refine I1.out.mono ?_) | (with_reducible refine I2.out.mono ?_)); rintro e we ⟨v2, rfl, ho2, hb2⟩))
        all_goals go_wp2_with fail
        all_goals go_meet
        all_goals obtain ⟨a9, c9, e9, -, -⟩ := OwnR.view encR_len ho2
        all_goals subst e9
        all_goals exact ⟨rfl, a9, _, c9, rfl, Lib.hid ho2, Lib.hid (by first | exact (BV.out.alloc BV.out.size _).trans hb2 | exact BV.out.trans hb2)⟩
      obtain ⟨rfl, b9, n9, c9, rfl, HO, BO⟩ := hcut
      clear CL IN
      clear bkc0 bkc1 bkc2 bkc3 bkc4
      go_wp2
      go_ret2
      exact ⟨Rows.own 0 HO.out, B.out.trans (BO.out.mono B.out.size)⟩
    · have t1 : (x1 == k1) = false := beq_eq_false_iff_ne.2 e1
      clear hx ok2 v1 hp hN ok hf hh hi9 HQ e1 nz hlim
      go_enter Tryd.func13, Tryd.ntmps13
      obtain ⟨G, hG⟩ : ∃ G, w.heap.size = G := ⟨_, rfl⟩
      have HG := Lib.hid hG
      have Kk := Lib.hid (show Blk (w.alloc (.cells #[.int .i64 k1, .int .i64 k2, .string k3, .int .i64 k4, .int .i64 k5] 24)) (G) 24 #[.int .i64 k1, .int .i64 k2, .string k3, .int .i64 k4, .int .i64 k5] from Blk.new' _ _ _ _ hG rfl)
      have B := Lib.hid (show Below w.heap.size w (w.alloc (.cells #[.int .i64 k1, .int .i64 k2, .string k3, .int .i64 k4, .int .i64 k5] 24)) by (repeat' (first | (with_reducible exact Below.refl _ _) | (with_reducible assumption) | (with_reducible refine Below.alloc ?_ ?_ _) | (with_reducible refine Below.drew ?_) | (with_reducible refine below_dn ?_) | (with_reducible refine Below.setCell ?_ ?_ _) | (with_reducible exact Nat.le_refl _) | omega | (simp only [World.size_alloc, World.size_setCell, World.size_drew]; omega) | (simp; omega) | (simp; done))))
      go_upto_region 1 with (fail)
      try rw [hG]
      generalize hw0 : (w.alloc (.cells #[.int .i64 k1, .int .i64 k2, .string k3, .int .i64 k4, .int .i64 k5] 24)) = w0 at Kk B ⊢
      clear hw0 hG
      obtain ⟨bkc0, bkc1, bkc2, bkc3, bkc4⟩ := five Kk.out
      go_wp2_with fail
      refine (VA.out _).mono ?_
      rintro e w1 ⟨rfl, hb⟩
      replace Kk := Lib.hid (Kk.out.below hb Kk.out.lt)
      replace B := Lib.hid (B.out.trans (hb.mono B.out.size))
      clear bkc0 bkc1 bkc2 bkc3 bkc4
      clear hb
      obtain ⟨bkc0, bkc1, bkc2, bkc3, bkc4⟩ := five Kk.out
      go_wp2_with fail
      refine (PL.out _ (HP.out.mono B.out)).mono ?_
      rintro e w2 ⟨rfl, hb⟩
      replace Kk := Lib.hid (Kk.out.below hb Kk.out.lt)
      replace B := Lib.hid (B.out.trans (hb.mono B.out.size))
      clear bkc0 bkc1 bkc2 bkc3 bkc4
      clear hb
      obtain ⟨bkc0, bkc1, bkc2, bkc3, bkc4⟩ := five Kk.out
      obtain ⟨b, off, rfl, q0, q1, q2, q3, q4⟩ := RwA.at_ (HP.out.mono B.out) (k := i) (by rw [HE.out]; exact hlt)
      rw [HX.out] at q0 q1 q2 q3 q4
      simp only at q0 q1 q2 q3 q4
      have zq := block_lt_of_cell q0
      clear bkc0 bkc1 bkc2 bkc3 bkc4
      obtain ⟨bkc0, bkc1, bkc2, bkc3, bkc4⟩ := five Kk.out
      have gc := grow_cell3
      have zzk := Kk.out.lt
      go_wp2_with fail
      refine wp_region_quiet_below (by kernel_rfl) (by kernel_rfl) ?_
      repeat (go_big_quiet_step (fail))
      refine wpQuiet_nil ?_
      intro w3 hw'
      obtain ⟨⟨dq, osq⟩, hw''⟩ := hw'
      have hb := below_of_grow3 hw''
      clear hw'' gc zzk
      replace Kk := Lib.hid (Kk.out.below hb Kk.out.lt)
      replace B := Lib.hid (B.out.trans (hb.mono B.out.size))
      clear hb
      clear bkc0 bkc1 bkc2 bkc3 bkc4
      clear q0 q1 q2 q3 q4 zq
      obtain ⟨bkc0, bkc1, bkc2, bkc3, bkc4⟩ := five Kk.out
      clear bkc0 bkc1 bkc2 bkc3 bkc4
      obtain ⟨bkc0, bkc1, bkc2, bkc3, bkc4⟩ := five Kk.out
      go_upto_region 8 with (fail)
      have CL := Lib.hid (fun (X : World) (h : Below w3.heap.size w3 X) => Ke.clone_any _ c l X (HP.out.mono (B.out.trans (h.mono B.out.size))) (by rw [HE.out]; omega))
      simp only [HE.out] at CL
      have IN := Lib.hid (fun (v : Value) (vb : Nat) (X : World) (ho : Ke.OwnA X w3.heap.size v l) (hx : Blk X vb 24 #[.int .i64 k1, .int .i64 k2, .string k3, .int .i64 k4, .int .i64 k5]) (hv : ∀ k, v.ownBlock = some k → vb ≠ k) (hs : w3.heap.size ≤ X.heap.size) => Ke.ins_any v l i (k1, k2, k3, k4, k5) vb w3.heap.size X ho (by rw [HE.out]; exact hle) (by rw [HE.out]; omega) hs hx hv)
      have BX1 := Lib.hid (show Below w3.heap.size w3 w3.drew from by (repeat' (first | (with_reducible exact Below.refl _ _) | (with_reducible assumption) | (with_reducible refine Below.alloc ?_ ?_ _) | (with_reducible refine Below.drew ?_) | (with_reducible refine below_dn ?_) | (with_reducible refine Below.setCell ?_ ?_ _) | (with_reducible exact Nat.le_refl _) | omega | (simp only [World.size_alloc, World.size_setCell, World.size_drew]; omega) | (simp; omega) | (simp; done))))
      have BX2 := Lib.hid (show Below w3.heap.size w3 (w3.drew.alloc (.cells #[.int .i64 k1, .int .i64 k2, .string k3, .int .i64 k4, .int .i64 k5] 24)) from by (repeat' (first | (with_reducible exact Below.refl _ _) | (with_reducible assumption) | (with_reducible refine Below.alloc ?_ ?_ _) | (with_reducible refine Below.drew ?_) | (with_reducible refine below_dn ?_) | (with_reducible refine Below.setCell ?_ ?_ _) | (with_reducible exact Nat.le_refl _) | omega | (simp only [World.size_alloc, World.size_setCell, World.size_drew]; omega) | (simp; omega) | (simp; done))))
      have BX3 := Lib.hid (show Below w3.heap.size w3 (w3.alloc (.cells #[.int .i64 k1, .int .i64 k2, .string k3, .int .i64 k4, .int .i64 k5] 24)).drew from by (repeat' (first | (with_reducible exact Below.refl _ _) | (with_reducible assumption) | (with_reducible refine Below.alloc ?_ ?_ _) | (with_reducible refine Below.drew ?_) | (with_reducible refine below_dn ?_) | (with_reducible refine Below.setCell ?_ ?_ _) | (with_reducible exact Nat.le_refl _) | omega | (simp only [World.size_alloc, World.size_setCell, World.size_drew]; omega) | (simp; omega) | (simp; done))))
      have BX4 := Lib.hid (show Below w3.heap.size w3 w3 from by (repeat' (first | (with_reducible exact Below.refl _ _) | (with_reducible assumption) | (with_reducible refine Below.alloc ?_ ?_ _) | (with_reducible refine Below.drew ?_) | (with_reducible refine below_dn ?_) | (with_reducible refine Below.setCell ?_ ?_ _) | (with_reducible exact Nat.le_refl _) | omega | (simp only [World.size_alloc, World.size_setCell, World.size_drew]; omega) | (simp; omega) | (simp; done))))
      go_cut [4, 5] from 43 to 49 (fun u u5 wx => u5 = .int .i64 0 ∧ ∃ b9 n9 c9, u = .slice b9 n9 c9 ∧ Hid (Ke.OwnA wx w3.heap.size (.slice b9 n9 c9) (insL l i (k1, k2, k3, k4, k5))) ∧ Hid (Below w3.heap.size w3 wx))
      case first =>
        go_region_with (first | (go_at_call 59; (first | (with_reducible refine (CL.out _ BX1.out).mono ?_) | (with_reducible refine (CL.out _ BX2.out).mono ?_) | (with_reducible refine (CL.out _ BX3.out).mono ?_) | (with_reducible refine (CL.out _ BX4.out).mono ?_)); rintro e wd ⟨v, rfl, ho, hb⟩; have BV := Lib.hid (show Below w3.heap.size w3 wd from by refine Below.trans ?_ (hb.mono ?_) <;> (repeat' (first | (with_reducible exact Below.refl _ _) | (with_reducible assumption) | (with_reducible refine Below.alloc ?_ ?_ _) | (with_reducible refine Below.drew ?_) | (with_reducible refine below_dn ?_) | (with_reducible refine Below.setCell ?_ ?_ _) | (with_reducible exact Nat.le_refl _) | omega | (simp only [World.size_alloc, World.size_setCell, World.size_drew]; omega) | (simp; omega) | (simp; done)))); have HV := Lib.hid (fun k hk => own_lt ho k hk); have HO := Lib.hid (OwnR.weak ho (show w3.heap.size ≤ _ by first | exact Nat.le_refl _ | (simp only [World.size_alloc, World.size_drew]; omega))); have KD := Lib.hid (Kk.out.below BV.out Kk.out.lt); obtain ⟨y0, y1, y2, y3, y4⟩ := five KD.out; have I1 := Lib.hid (IN.out v wd.heap.size (wd.alloc (.cells #[.int .i64 k1, .int .i64 k2, .string k3, .int .i64 k4, .int .i64 k5] 24)) (HO.out.alloc _) (Blk.new' wd _ _ _ rfl rfl) (fun k hk => by have := HV.out k hk; omega) (by have := BV.out.size; rw [World.size_alloc]; omega)); (try (refine (have OZ : Hid (Blk wd w3.heap.size 24 #[.int .i64 k1, .int .i64 k2, .string k3, .int .i64 k4, .int .i64 k5]) := ?hz; ?_); (case hz => first | exact Lib.hid (Blk.below (Blk.new' _ _ _ _ rfl rfl) hb (by simp)) | exact Lib.hid (Blk.below (Blk.drew (Blk.new' _ _ _ _ rfl rfl)) hb (by simp))); (try (have I2 := Lib.hid (IN.out v w3.heap.size wd HO.out OZ.out (fun k hk => by have := HV.out k hk; simp at this; omega) BV.out.size))))); clear hb ho) | (go_at_call 58; (first | (with_reducible refine I1.out.mono ?_) | (with_reducible refine I2.out.mono ?_)); rintro e we ⟨v2, rfl, ho2, hb2⟩))
        all_goals go_wp2_with fail
        all_goals go_meet
        all_goals obtain ⟨a9, c9, e9, -, -⟩ := OwnR.view encR_len ho2
        all_goals subst e9
        all_goals exact ⟨rfl, a9, _, c9, rfl, Lib.hid ho2, Lib.hid (by first | exact (BV.out.alloc BV.out.size _).trans hb2 | exact BV.out.trans hb2)⟩
      obtain ⟨rfl, b9, n9, c9, rfl, HO, BO⟩ := hcut
      clear CL IN
      clear bkc0 bkc1 bkc2 bkc3 bkc4
      go_wp2
      go_ret2
      exact ⟨Rows.own 0 HO.out, B.out.trans (BO.out.mono B.out.size)⟩
  · have t0 : decide ((i : Int) < (N : Int)) = false := decide_eq_false (by omega)
    have t0n : decide (i < N) = false := decide_eq_false (by omega)
    clear ok2 v1 hp hN ok hf hh hi9 HQ hlt hlim
    go_enter Tryd.func13, Tryd.ntmps13
    obtain ⟨G, hG⟩ : ∃ G, w.heap.size = G := ⟨_, rfl⟩
    have HG := Lib.hid hG
    have Kk := Lib.hid (show Blk (w.alloc (.cells #[.int .i64 k1, .int .i64 k2, .string k3, .int .i64 k4, .int .i64 k5] 24)) (G) 24 #[.int .i64 k1, .int .i64 k2, .string k3, .int .i64 k4, .int .i64 k5] from Blk.new' _ _ _ _ hG rfl)
    have B := Lib.hid (show Below w.heap.size w (w.alloc (.cells #[.int .i64 k1, .int .i64 k2, .string k3, .int .i64 k4, .int .i64 k5] 24)) by (repeat' (first | (with_reducible exact Below.refl _ _) | (with_reducible assumption) | (with_reducible refine Below.alloc ?_ ?_ _) | (with_reducible refine Below.drew ?_) | (with_reducible refine below_dn ?_) | (with_reducible refine Below.setCell ?_ ?_ _) | (with_reducible exact Nat.le_refl _) | omega | (simp only [World.size_alloc, World.size_setCell, World.size_drew]; omega) | (simp; omega) | (simp; done))))
    go_upto_region 1 with (fail)
    try rw [hG]
    generalize hw0 : (w.alloc (.cells #[.int .i64 k1, .int .i64 k2, .string k3, .int .i64 k4, .int .i64 k5] 24)) = w0 at Kk B ⊢
    clear hw0 hG
    obtain ⟨bkc0, bkc1, bkc2, bkc3, bkc4⟩ := five Kk.out
    go_wp2_with fail
    refine (VA.out _).mono ?_
    rintro e w1 ⟨rfl, hb⟩
    replace Kk := Lib.hid (Kk.out.below hb Kk.out.lt)
    replace B := Lib.hid (B.out.trans (hb.mono B.out.size))
    clear bkc0 bkc1 bkc2 bkc3 bkc4
    clear hb
    obtain ⟨bkc0, bkc1, bkc2, bkc3, bkc4⟩ := five Kk.out
    go_wp2_with fail
    refine (PL.out _ (HP.out.mono B.out)).mono ?_
    rintro e w2 ⟨rfl, hb⟩
    replace Kk := Lib.hid (Kk.out.below hb Kk.out.lt)
    replace B := Lib.hid (B.out.trans (hb.mono B.out.size))
    clear bkc0 bkc1 bkc2 bkc3 bkc4
    clear hb
    obtain ⟨bkc0, bkc1, bkc2, bkc3, bkc4⟩ := five Kk.out
    clear bkc0 bkc1 bkc2 bkc3 bkc4
    obtain ⟨bkc0, bkc1, bkc2, bkc3, bkc4⟩ := five Kk.out
    have gc := grow_cell3
    have zzk := Kk.out.lt
    go_wp2_with fail
    refine wp_region_quiet_below (by kernel_rfl) (by kernel_rfl) ?_
    repeat (go_big_quiet_step (fail))
    refine wpQuiet_nil ?_
    intro w3 hw'
    obtain ⟨⟨dq, osq⟩, hw''⟩ := hw'
    have hb := below_of_grow3 hw''
    clear hw'' gc zzk
    replace Kk := Lib.hid (Kk.out.below hb Kk.out.lt)
    replace B := Lib.hid (B.out.trans (hb.mono B.out.size))
    clear hb
    clear bkc0 bkc1 bkc2 bkc3 bkc4
    obtain ⟨bkc0, bkc1, bkc2, bkc3, bkc4⟩ := five Kk.out
    clear bkc0 bkc1 bkc2 bkc3 bkc4
    obtain ⟨bkc0, bkc1, bkc2, bkc3, bkc4⟩ := five Kk.out
    go_upto_region 8 with (fail)
    have CL := Lib.hid (fun (X : World) (h : Below w3.heap.size w3 X) => Ke.clone_any _ c l X (HP.out.mono (B.out.trans (h.mono B.out.size))) (by rw [HE.out]; omega))
    simp only [HE.out] at CL
    have IN := Lib.hid (fun (v : Value) (vb : Nat) (X : World) (ho : Ke.OwnA X w3.heap.size v l) (hx : Blk X vb 24 #[.int .i64 k1, .int .i64 k2, .string k3, .int .i64 k4, .int .i64 k5]) (hv : ∀ k, v.ownBlock = some k → vb ≠ k) (hs : w3.heap.size ≤ X.heap.size) => Ke.ins_any v l i (k1, k2, k3, k4, k5) vb w3.heap.size X ho (by rw [HE.out]; exact hle) (by rw [HE.out]; omega) hs hx hv)
    have BX1 := Lib.hid (show Below w3.heap.size w3 w3.drew from by (repeat' (first | (with_reducible exact Below.refl _ _) | (with_reducible assumption) | (with_reducible refine Below.alloc ?_ ?_ _) | (with_reducible refine Below.drew ?_) | (with_reducible refine below_dn ?_) | (with_reducible refine Below.setCell ?_ ?_ _) | (with_reducible exact Nat.le_refl _) | omega | (simp only [World.size_alloc, World.size_setCell, World.size_drew]; omega) | (simp; omega) | (simp; done))))
    have BX2 := Lib.hid (show Below w3.heap.size w3 (w3.drew.alloc (.cells #[.int .i64 k1, .int .i64 k2, .string k3, .int .i64 k4, .int .i64 k5] 24)) from by (repeat' (first | (with_reducible exact Below.refl _ _) | (with_reducible assumption) | (with_reducible refine Below.alloc ?_ ?_ _) | (with_reducible refine Below.drew ?_) | (with_reducible refine below_dn ?_) | (with_reducible refine Below.setCell ?_ ?_ _) | (with_reducible exact Nat.le_refl _) | omega | (simp only [World.size_alloc, World.size_setCell, World.size_drew]; omega) | (simp; omega) | (simp; done))))
    have BX3 := Lib.hid (show Below w3.heap.size w3 (w3.alloc (.cells #[.int .i64 k1, .int .i64 k2, .string k3, .int .i64 k4, .int .i64 k5] 24)).drew from by (repeat' (first | (with_reducible exact Below.refl _ _) | (with_reducible assumption) | (with_reducible refine Below.alloc ?_ ?_ _) | (with_reducible refine Below.drew ?_) | (with_reducible refine below_dn ?_) | (with_reducible refine Below.setCell ?_ ?_ _) | (with_reducible exact Nat.le_refl _) | omega | (simp only [World.size_alloc, World.size_setCell, World.size_drew]; omega) | (simp; omega) | (simp; done))))
    have BX4 := Lib.hid (show Below w3.heap.size w3 w3 from by (repeat' (first | (with_reducible exact Below.refl _ _) | (with_reducible assumption) | (with_reducible refine Below.alloc ?_ ?_ _) | (with_reducible refine Below.drew ?_) | (with_reducible refine below_dn ?_) | (with_reducible refine Below.setCell ?_ ?_ _) | (with_reducible exact Nat.le_refl _) | omega | (simp only [World.size_alloc, World.size_setCell, World.size_drew]; omega) | (simp; omega) | (simp; done))))
    go_cut [4, 5] from 43 to 49 (fun u u5 wx => u5 = .int .i64 0 ∧ ∃ b9 n9 c9, u = .slice b9 n9 c9 ∧ Hid (Ke.OwnA wx w3.heap.size (.slice b9 n9 c9) (insL l i (k1, k2, k3, k4, k5))) ∧ Hid (Below w3.heap.size w3 wx))
    case first =>
      go_region_with (first | (go_at_call 59; (first | (with_reducible refine (CL.out _ BX1.out).mono ?_) | (with_reducible refine (CL.out _ BX2.out).mono ?_) | (with_reducible refine (CL.out _ BX3.out).mono ?_) | (with_reducible refine (CL.out _ BX4.out).mono ?_)); rintro e wd ⟨v, rfl, ho, hb⟩; have BV := Lib.hid (show Below w3.heap.size w3 wd from by refine Below.trans ?_ (hb.mono ?_) <;> (repeat' (first | (with_reducible exact Below.refl _ _) | (with_reducible assumption) | (with_reducible refine Below.alloc ?_ ?_ _) | (with_reducible refine Below.drew ?_) | (with_reducible refine below_dn ?_) | (with_reducible refine Below.setCell ?_ ?_ _) | (with_reducible exact Nat.le_refl _) | omega | (simp only [World.size_alloc, World.size_setCell, World.size_drew]; omega) | (simp; omega) | (simp; done)))); have HV := Lib.hid (fun k hk => own_lt ho k hk); have HO := Lib.hid (OwnR.weak ho (show w3.heap.size ≤ _ by first | exact Nat.le_refl _ | (simp only [World.size_alloc, World.size_drew]; omega))); have KD := Lib.hid (Kk.out.below BV.out Kk.out.lt); obtain ⟨y0, y1, y2, y3, y4⟩ := five KD.out; have I1 := Lib.hid (IN.out v wd.heap.size (wd.alloc (.cells #[.int .i64 k1, .int .i64 k2, .string k3, .int .i64 k4, .int .i64 k5] 24)) (HO.out.alloc _) (Blk.new' wd _ _ _ rfl rfl) (fun k hk => by have := HV.out k hk; omega) (by have := BV.out.size; rw [World.size_alloc]; omega)); (try (refine (have OZ : Hid (Blk wd w3.heap.size 24 #[.int .i64 k1, .int .i64 k2, .string k3, .int .i64 k4, .int .i64 k5]) := ?hz; ?_); (case hz => first | exact Lib.hid (Blk.below (Blk.new' _ _ _ _ rfl rfl) hb (by simp)) | exact Lib.hid (Blk.below (Blk.drew (Blk.new' _ _ _ _ rfl rfl)) hb (by simp))); (try (have I2 := Lib.hid (IN.out v w3.heap.size wd HO.out OZ.out (fun k hk => by have := HV.out k hk; simp at this; omega) BV.out.size))))); clear hb ho) | (go_at_call 58; (first | (with_reducible refine I1.out.mono ?_) | (with_reducible refine I2.out.mono ?_)); rintro e we ⟨v2, rfl, ho2, hb2⟩))
      all_goals go_wp2_with fail
      all_goals go_meet
      all_goals obtain ⟨a9, c9, e9, -, -⟩ := OwnR.view encR_len ho2
      all_goals subst e9
      all_goals exact ⟨rfl, a9, _, c9, rfl, Lib.hid ho2, Lib.hid (by first | exact (BV.out.alloc BV.out.size _).trans hb2 | exact BV.out.trans hb2)⟩
    obtain ⟨rfl, b9, n9, c9, rfl, HO, BO⟩ := hcut
    clear CL IN
    clear bkc0 bkc1 bkc2 bkc3 bkc4
    go_wp2
    go_ret2
    exact ⟨Rows.own 0 HO.out, B.out.trans (BO.out.mono B.out.size)⟩
theorem add_any (a : Option Addr) (c : Nat) (l : List Rw) (x : Rw) (w : World) (hp : RwA w a l) (ok : RingOk l) :
    Calls Tryd.prog 13 #[.slice a l.length c, .agg (encR x).toArray] w fun e w' => Rows (addL l x) w' e ∧ Below w.heap.size w w' := by
  by_cases ok2 : keyOk x
  · by_cases hh : hasC (cR x.1 x.2.1) l = true
    · exact add_twice a c l x w hp ok ok2 hh
    · by_cases hlim : 1000 ≤ l.length
      · exact add_limit a c l x w hp ok ok2 hh hlim
      · exact add_ok a c l x w hp ok ok2 hh hlim
  · exact add_bad a c l x w hp ok ok2
end Go.Proofs.YtcdcnklfcmoiiaaDoor
