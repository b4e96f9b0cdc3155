/- Contracts: checks of records, reference. -/
import Derived.Test.YteblnmhaohbkkaaGreatDoorQSER
import Derived.Test.YteblnmhaohbkkaaGreatDoorQSCP
import Derived.Test.YteblnmhaohbkkaaGreatDoorQSSE
namespace Go.Proofs.YteblnmhaohbkkaaGreatDoor
set_option linter.unusedVariables false
set_option linter.unusedSimpArgs false
open Go.RowKit Go.Sort
theorem rsite_yes {n : Int} (h : 0 ≤ n ∧ n < 64) (w : World) : Calls Tryz.prog 49 #[.int .i64 n] w fun e w' => e = .returned (.bool true) ∧ w = w' := by
  obtain ⟨h1, h2⟩ := h
  go_enter Tryz.func49, Tryz.ntmps49
  go_wp2
  go_ret
  exact ⟨rfl, rfl⟩
theorem rsite_no {n : Int} (h : ¬ (0 ≤ n ∧ n < 64)) (w : World) : Calls Tryz.prog 49 #[.int .i64 n] w fun e w' => e = .returned (.bool false) ∧ w = w' := by
  by_cases h1 : 0 ≤ n
  · have h2 : decide (n < 64) = false := decide_eq_false (by omega)
    clear h
    go_enter Tryz.func49, Tryz.ntmps49
    go_wp2
    go_ret
    exact ⟨rfl, rfl⟩
  · have h2 : decide (0 ≤ n) = false := decide_eq_false h1
    clear h h1
    go_enter Tryz.func49, Tryz.ntmps49
    go_wp2
    go_ret
    exact ⟨rfl, rfl⟩
set_option maxRecDepth 100000 in
set_option maxHeartbeats 1000000 in
theorem checkLeaseU_any (a : Option Addr) (c : Nat) (l : List Rw) (st e0 u r : Int) (D : List Nat) (w : World) (hp : RwA w a l) (ok : RingOk l) (hD : D.length = 16) (hsite : 0 ≤ st ∧ st < 64) (h1 : i64Ok st) (h2 : i64Ok e0) (h3 : i64Ok u) (U : Int) (hU : IntKind.i64.wrap (u - 1) = U) (h4 : i64Ok r) (hla : Hs.LaidC w) :
    Calls Tryz.prog 26 #[.slice a l.length c, .agg (leaseC st e0 u r D)] w fun e w' => e = .returned (.int .i64 (chkE l 1 r 43 [leaseP st e0 u r] D U U)) ∧ Below w.heap.size w w' := by
  have HLA := Lib.hid hla
  have HP := Lib.hid hp
  have SY := Lib.hid (fun W : World => site_yes hsite W)
  have LI := Lib.hid (show (Tryz.prog.info? 26).map (·.size) = some (leaseC st e0 u r D).size by rw [lease_size _ _ _ _ _ hD]; kernel_rfl)
  have SI := Lib.hid (show (Tryz.prog.info? 24).map (·.size) = some (D.map Hs.bv).length by rw [List.length_map, hD]; kernel_rfl)
  have wU : IntKind.i64.wrap U = U := by rw [← hU, IntKind.wrap_i64, IntKind.wrap_i64]; omega
  have CH := Lib.hid (fun (X : World) (h : RwA X a l) (hla : Hs.LaidC X) => checkL_any a c l st e0 u r D 1 r D U U X h ok hD hD h1 h2 h3 h4 hla)
  obtain ⟨R, hR⟩ : ∃ R, chkE l 1 r 43 [leaseP st e0 u r] D U U = R := ⟨_, rfl⟩
  simp only [hR] at CH
  rw [hR]
  obtain ⟨N, hN⟩ : ∃ N, l.length = N := ⟨_, rfl⟩
  simp only [hN] at CH
  rw [hN]
  have HD := Lib.hid hD
  clear hla hp hsite ok hR hN h1 h2 h3 h4 hD
  obtain ⟨LC, hLC⟩ : ∃ C, leaseC st e0 u r D = C := ⟨_, rfl⟩
  obtain ⟨G, hG⟩ : ∃ G, w.heap.size = G := ⟨_, rfl⟩
  have HG := Lib.hid hG
  have Kx := Lib.hid (show Blk (w.alloc (.cells LC 26)) G 26 (leaseC st e0 u r D) from by rw [hLC]; exact (Blk.new' w _ _ _ hG rfl))
  have B := Lib.hid (show Below w.heap.size w (w.alloc (.cells LC 26)) by (repeat' (first | (with_reducible exact Below.refl _ _) | (with_reducible assumption) | (with_reducible refine Below.alloc ?_ ?_ _) | (with_reducible refine Below.drew ?_) | (with_reducible refine below_dn ?_) | (with_reducible refine Below.setCell ?_ ?_ _) | (with_reducible exact Nat.le_refl _) | omega | (simp only [World.size_alloc, World.size_setCell, World.size_drew]; omega) | (simp; omega) | (simp; done))))
  rw [hLC]
  clear hLC
  go_enter Tryz.func26, Tryz.ntmps26
  go_upto_region 1 with (fail)
  try rw [hG]
  generalize hw0 : (w.alloc (.cells LC 26)) = w0 at Kx B ⊢
  clear hw0 hG
  obtain ⟨x0, x1, x2, x3⟩ := lease_cells Kx.out
  go_wp2_with fail
  refine (SY.out _).mono ?_
  rintro e wz ⟨rfl, rfl⟩
  obtain ⟨gp, hgp⟩ : ∃ G, w0.heap.size = G := ⟨_, rfl⟩
  have Kp := Lib.hid (show Blk (w0.alloc (.cells #[.int .i64 U, .int .i64 U] 30)) gp 30 #[.int .i64 U, .int .i64 U] from Blk.new' w0 _ _ _ hgp rfl)
  replace Kx := Lib.hid (Kx.out.alloc (.cells #[.int .i64 U, .int .i64 U] 30))
  replace B := Lib.hid (B.out.alloc B.out.size (.cells #[.int .i64 U, .int .i64 U] 30))
  go_upto_region 4 with (fail)
  try rw [hgp]
  generalize hw : w0.alloc (.cells #[.int .i64 U, .int .i64 U] 30) = w1 at Kx Kp B ⊢
  clear hw hgp x0 x1 x2 x3
  obtain ⟨d0, d1, d2, d3, d4, d5, d6, d7, d8, d9, d10, d11, d12, d13, d14, d15, rfl⟩ := list16 HD.out
  obtain ⟨x0, x1, x2, x3⟩ := lease_cells Kx.out
  obtain ⟨p0, p1⟩ := twob Kp.out
  have Hx := Lib.hid (show Hs.Blk w1 G 26 (leaseC st e0 u r [d0, d1, d2, d3, d4, d5, d6, d7, d8, d9, d10, d11, d12, d13, d14, d15]) from Kx.out)
  have Hs4 := Lib.hid (lease_seal Kx.out)
  clear HD
  go_wp2_with (first | (with_reducible refine Hs.wpList_load_all rfl 26 _ rfl G rfl 26 (leaseC st e0 u r [d0, d1, d2, d3, d4, d5, d6, d7, d8, d9, d10, d11, d12, d13, d14, d15]) _ Hx.out Tryz.underlying26 LI.out ?_) | (with_reducible refine wpList_load_mid rfl 24 _ rfl G 4 rfl ([d0, d1, d2, d3, d4, d5, d6, d7, d8, d9, d10, d11, d12, d13, d14, d15].map Hs.bv) _ Hs4.out Tryz.underlying24 rfl SI.out ?_))
  refine (CH.out _ (HP.out.mono B.out) (HLA.out.below B.out)).mono ?_
  rintro e w3 ⟨rfl, hb⟩
  replace B := Lib.hid (B.out.trans (hb.mono B.out.size))
  clear hb
  go_wp2
  go_ret
  exact ⟨rfl, B.out⟩
set_option maxRecDepth 100000 in
theorem checkLease_bad (a : Option Addr) (c : Nat) (l : List Rw) (st e0 u r : Int) (D : List Nat) (w : World) (hsite : ¬ (0 ≤ st ∧ st < 64)) :
    Calls Tryz.prog 26 #[.slice a l.length c, .agg (leaseC st e0 u r D)] w fun e w' => e = .returned (.int .i64 1) ∧ Below w.heap.size w w' := by
  have SN := Lib.hid (fun W : World => site_no hsite W)
  obtain ⟨N, hN⟩ : ∃ N, l.length = N := ⟨_, rfl⟩
  rw [hN]
  clear hsite hN
  obtain ⟨LC, hLC⟩ : ∃ C, leaseC st e0 u r D = C := ⟨_, rfl⟩
  obtain ⟨G, hG⟩ : ∃ G, w.heap.size = G := ⟨_, rfl⟩
  have HG := Lib.hid hG
  have Kx := Lib.hid (show Blk (w.alloc (.cells LC 26)) G 26 (leaseC st e0 u r D) from by rw [hLC]; exact (Blk.new' w _ _ _ hG rfl))
  have B0 := Lib.hid (show Below w.heap.size w (w.alloc (.cells LC 26)) by (repeat' (first | (with_reducible exact Below.refl _ _) | (with_reducible assumption) | (with_reducible refine Below.alloc ?_ ?_ _) | (with_reducible refine Below.drew ?_) | (with_reducible refine below_dn ?_) | (with_reducible refine Below.setCell ?_ ?_ _) | (with_reducible exact Nat.le_refl _) | omega | (simp only [World.size_alloc, World.size_setCell, World.size_drew]; omega) | (simp; omega) | (simp; done))))
  rw [hLC]
  clear hLC
  go_enter Tryz.func26, Tryz.ntmps26
  go_upto_region 1 with (fail)
  try rw [hG]
  generalize hw0 : (w.alloc (.cells LC 26)) = w0 at Kx B0 ⊢
  clear hw0 hG
  obtain ⟨x0, x1, x2, x3⟩ := lease_cells Kx.out
  go_wp2_with fail
  refine (SN.out _).mono ?_
  rintro e wz ⟨rfl, rfl⟩
  go_wp2
  go_ret
  exact ⟨rfl, B0.out⟩
set_option maxRecDepth 100000 in
theorem rcheckLease_bad (a : Option Addr) (c : Nat) (l : List Rw) (st e0 u r : Int) (D : List Nat) (w : World) (hsite : ¬ (0 ≤ st ∧ st < 64)) :
    Calls Tryz.prog 30 #[.slice a l.length c, .agg (leaseC st e0 u r D)] w fun e w' => e = .returned (.int .i64 1) ∧ Below w.heap.size w w' := by
  have SN := Lib.hid (fun W : World => rsite_no hsite W)
  obtain ⟨N, hN⟩ : ∃ N, l.length = N := ⟨_, rfl⟩
  rw [hN]
  clear hsite hN
  obtain ⟨LC, hLC⟩ : ∃ C, leaseC st e0 u r D = C := ⟨_, rfl⟩
  obtain ⟨G, hG⟩ : ∃ G, w.heap.size = G := ⟨_, rfl⟩
  have HG := Lib.hid hG
  have Kx := Lib.hid (show Blk (w.alloc (.cells LC 26)) G 26 (leaseC st e0 u r D) from by rw [hLC]; exact (Blk.new' w _ _ _ hG rfl))
  have B0 := Lib.hid (show Below w.heap.size w (w.alloc (.cells LC 26)) by (repeat' (first | (with_reducible exact Below.refl _ _) | (with_reducible assumption) | (with_reducible refine Below.alloc ?_ ?_ _) | (with_reducible refine Below.drew ?_) | (with_reducible refine below_dn ?_) | (with_reducible refine Below.setCell ?_ ?_ _) | (with_reducible exact Nat.le_refl _) | omega | (simp only [World.size_alloc, World.size_setCell, World.size_drew]; omega) | (simp; omega) | (simp; done))))
  rw [hLC]
  clear hLC
  go_enter Tryz.func30, Tryz.ntmps30
  go_upto_region 1 with (fail)
  try rw [hG]
  generalize hw0 : (w.alloc (.cells LC 26)) = w0 at Kx B0 ⊢
  clear hw0 hG
  obtain ⟨x0, x1, x2, x3⟩ := lease_cells Kx.out
  go_wp2_with fail
  refine (SN.out _).mono ?_
  rintro e wz ⟨rfl, rfl⟩
  go_wp2
  go_ret
  exact ⟨rfl, B0.out⟩
set_option maxRecDepth 100000 in
set_option maxHeartbeats 1000000 in
theorem rcheckLease_lo (a : Option Addr) (c : Nat) (l : List Rw) (st e0 u r : Int) (D : List Nat) (w : World) (hp : RwA w a l) (ok : RingOk l) (hD : D.length = 16) (hsite : 0 ≤ st ∧ st < 64) (h1 : i64Ok st) (h2 : i64Ok e0) (h3 : i64Ok u) (h4 : i64Ok r) (hlk : Hs.LaidK w) (hu : u < 1) :
    Calls Tryz.prog 30 #[.slice a l.length c, .agg (leaseC st e0 u r D)] w fun e w' => e = .returned (.int .i64 (if hasC (cR 1 r) l = true then 9 else 5)) ∧ Below w.heap.size w w' := by
  have SY := Lib.hid (fun W : World => rsite_yes hsite W)
  have HR0 := Lib.hid hp
  have t1 : decide (u < 1) = true := decide_eq_true hu
  obtain ⟨⟨f1, f2, f3, f4, f5⟩, hf⟩ : ∃ q, findL l 1 r = q := ⟨_, rfl⟩
  have FD := Lib.hid (show ∀ X : World, RwA X a l → Calls Tryz.prog 50 #[.slice a l.length c, .int .i64 1, .int .i64 r] X fun e w' => e = .returned (.agg #[.int .i64 f1, .int .i64 f2, .string f3, .int .i64 f4, .int .i64 f5, .int .i64 (findE l 1 r)]) ∧ Below X.heap.size X w' from fun X h => by have q := rfind_any a c l 1 r X h ok.ord (by have := ok.few; omega); rw [hf] at q; exact q)
  have hE : findE l 1 r = if hasC (cR 1 r) l = true then 0 else 5 := by
    by_cases hh : hasC (cR 1 r) l = true
    · rw [if_pos hh, (find_yes hh).2]
    · rw [if_neg hh, (find_no hh).2]
  by_cases hh : hasC (cR 1 r) l = true
  all_goals
    first | rw [if_pos hh] at hE | rw [if_neg hh] at hE
    simp only [hE] at FD
    first | rw [if_pos hh] | rw [if_neg hh]
    obtain ⟨N, hN⟩ : ∃ N, l.length = N := ⟨_, rfl⟩
    simp only [hN] at FD
    rw [hN]
    clear hp ok hsite h1 h2 h3 h4 hlk hf hE hh hN hD hu
    obtain ⟨LC, hLC⟩ : ∃ C, leaseC st e0 u r D = C := ⟨_, rfl⟩
    obtain ⟨G, hG⟩ : ∃ G, w.heap.size = G := ⟨_, rfl⟩
    have HG := Lib.hid hG
    have Kx := Lib.hid (show Blk (w.alloc (.cells LC 26)) G 26 (leaseC st e0 u r D) from by rw [hLC]; exact (Blk.new' w _ _ _ hG rfl))
    have B0 := Lib.hid (show Below w.heap.size w (w.alloc (.cells LC 26)) by (repeat' (first | (with_reducible exact Below.refl _ _) | (with_reducible assumption) | (with_reducible refine Below.alloc ?_ ?_ _) | (with_reducible refine Below.drew ?_) | (with_reducible refine below_dn ?_) | (with_reducible refine Below.setCell ?_ ?_ _) | (with_reducible exact Nat.le_refl _) | omega | (simp only [World.size_alloc, World.size_setCell, World.size_drew]; omega) | (simp; omega) | (simp; done))))
    rw [hLC]
    clear hLC
    go_enter Tryz.func30, Tryz.ntmps30
    go_upto_region 1 with (fail)
    try rw [hG]
    generalize hw0 : (w.alloc (.cells LC 26)) = w0 at Kx B0 ⊢
    clear hw0 hG
    obtain ⟨x0, x1, x2, x3⟩ := lease_cells Kx.out
    go_wp2_with fail
    refine (SY.out _).mono ?_
    rintro e wz ⟨rfl, rfl⟩
    go_wp2_with fail
    refine (FD.out _ (HR0.out.mono B0.out)).mono ?_
    rintro e w2 ⟨rfl, hb⟩
    replace B0 := Lib.hid (B0.out.trans (hb.mono B0.out.size))
    clear hb x0 x1 x2 x3 Kx
    go_wp2
    go_ret
    exact ⟨rfl, B0.out.alloc B0.out.size _⟩
set_option maxRecDepth 100000 in
set_option maxHeartbeats 1000000 in
theorem rcheckLease_hi (a : Option Addr) (c : Nat) (l : List Rw) (st e0 u r : Int) (D : List Nat) (w : World) (hp : RwA w a l) (ok : RingOk l) (hD : D.length = 16) (hsite : 0 ≤ st ∧ st < 64) (h1 : i64Ok st) (h2 : i64Ok e0) (h3 : i64Ok u) (h4 : i64Ok r) (hlk : Hs.LaidK w) (hu : ¬ u < 1) (hv : 1099511627776 < u) :
    Calls Tryz.prog 30 #[.slice a l.length c, .agg (leaseC st e0 u r D)] w fun e w' => e = .returned (.int .i64 (if hasC (cR 1 r) l = true then 9 else 5)) ∧ Below w.heap.size w w' := by
  have SY := Lib.hid (fun W : World => rsite_yes hsite W)
  have HR0 := Lib.hid hp
  have t1 : decide (u < 1) = false := decide_eq_false hu
  have t2 : decide (1099511627776 < u) = true := decide_eq_true hv
  obtain ⟨⟨f1, f2, f3, f4, f5⟩, hf⟩ : ∃ q, findL l 1 r = q := ⟨_, rfl⟩
  have FD := Lib.hid (show ∀ X : World, RwA X a l → Calls Tryz.prog 50 #[.slice a l.length c, .int .i64 1, .int .i64 r] X fun e w' => e = .returned (.agg #[.int .i64 f1, .int .i64 f2, .string f3, .int .i64 f4, .int .i64 f5, .int .i64 (findE l 1 r)]) ∧ Below X.heap.size X w' from fun X h => by have q := rfind_any a c l 1 r X h ok.ord (by have := ok.few; omega); rw [hf] at q; exact q)
  have hE : findE l 1 r = if hasC (cR 1 r) l = true then 0 else 5 := by
    by_cases hh : hasC (cR 1 r) l = true
    · rw [if_pos hh, (find_yes hh).2]
    · rw [if_neg hh, (find_no hh).2]
  by_cases hh : hasC (cR 1 r) l = true
  all_goals
    first | rw [if_pos hh] at hE | rw [if_neg hh] at hE
    simp only [hE] at FD
    first | rw [if_pos hh] | rw [if_neg hh]
    obtain ⟨N, hN⟩ : ∃ N, l.length = N := ⟨_, rfl⟩
    simp only [hN] at FD
    rw [hN]
    clear hp ok hsite h1 h2 h3 h4 hlk hf hE hh hN hD hu
    clear hv
    obtain ⟨LC, hLC⟩ : ∃ C, leaseC st e0 u r D = C := ⟨_, rfl⟩
    obtain ⟨G, hG⟩ : ∃ G, w.heap.size = G := ⟨_, rfl⟩
    have HG := Lib.hid hG
    have Kx := Lib.hid (show Blk (w.alloc (.cells LC 26)) G 26 (leaseC st e0 u r D) from by rw [hLC]; exact (Blk.new' w _ _ _ hG rfl))
    have B0 := Lib.hid (show Below w.heap.size w (w.alloc (.cells LC 26)) by (repeat' (first | (with_reducible exact Below.refl _ _) | (with_reducible assumption) | (with_reducible refine Below.alloc ?_ ?_ _) | (with_reducible refine Below.drew ?_) | (with_reducible refine below_dn ?_) | (with_reducible refine Below.setCell ?_ ?_ _) | (with_reducible exact Nat.le_refl _) | omega | (simp only [World.size_alloc, World.size_setCell, World.size_drew]; omega) | (simp; omega) | (simp; done))))
    rw [hLC]
    clear hLC
    go_enter Tryz.func30, Tryz.ntmps30
    go_upto_region 1 with (fail)
    try rw [hG]
    generalize hw0 : (w.alloc (.cells LC 26)) = w0 at Kx B0 ⊢
    clear hw0 hG
    obtain ⟨x0, x1, x2, x3⟩ := lease_cells Kx.out
    go_wp2_with fail
    refine (SY.out _).mono ?_
    rintro e wz ⟨rfl, rfl⟩
    go_wp2_with fail
    refine (FD.out _ (HR0.out.mono B0.out)).mono ?_
    rintro e w2 ⟨rfl, hb⟩
    replace B0 := Lib.hid (B0.out.trans (hb.mono B0.out.size))
    clear hb x0 x1 x2 x3 Kx
    go_wp2
    go_ret
    exact ⟨rfl, B0.out.alloc B0.out.size _⟩
set_option maxRecDepth 100000 in
set_option maxHeartbeats 1000000 in
theorem rcheckLease_in (a : Option Addr) (c : Nat) (l : List Rw) (st e0 u r : Int) (D : List Nat) (w : World) (hp : RwA w a l) (ok : RingOk l) (hD : D.length = 16) (hsite : 0 ≤ st ∧ st < 64) (h1 : i64Ok st) (h2 : i64Ok e0) (h3 : i64Ok u) (h4 : i64Ok r) (hlk : Hs.LaidK w) (hu : ¬ u < 1) (hv : ¬ 1099511627776 < u) :
    Calls Tryz.prog 30 #[.slice a l.length c, .agg (leaseC st e0 u r D)] w fun e w' => e = .returned (.int .i64 (chkE l 1 r 43 [leaseP st e0 u r] D (u - 1) (u - 1))) ∧ Below w.heap.size w w' := by
  have SY := Lib.hid (fun W : World => rsite_yes hsite W)
  have HLK := Lib.hid hlk
  have HR0 := Lib.hid hp
  have t1 : decide (u < 1) = false := decide_eq_false hu
  have t2 : decide (1099511627776 < u) = false := decide_eq_false hv
  have LP := Lib.hid (fun (X : World) => rleaseParts_any st e0 u r D X h1 h2 h3 h4)
  have PS : ∀ x ∈ [leaseP st e0 u r], x.size ≤ 400 := fun x hx => by
    obtain rfl := List.mem_singleton.1 hx
    exact numP_le [st, e0, u, r] (fun y hy => by
      simp only [List.mem_cons, List.not_mem_nil, or_false] at hy
      rcases hy with rfl | rfl | rfl | rfl <;> assumption) (by simp)
  have wU : IntKind.i64.wrap (u - 1) = u - 1 := by rw [IntKind.wrap_i64]; omega
  have CK := Lib.hid (fun (b : Option Addr) (c2 : Nat) (X : World) (h : RwA X a l) (h2 : StR X b [leaseP st e0 u r]) (hla : Hs.LaidK X) => rcheck_any a c l 1 r 43 43 b c2 [leaseP st e0 u r] D (u - 1) (u - 1) X h h2 ok rfl ⟨by simp, PS⟩ hD hla)
  simp only [List.length_cons, List.length_nil, Nat.zero_add] at CK
  obtain ⟨U, hU⟩ : ∃ U, u - 1 = U := ⟨_, rfl⟩
  rw [hU] at wU ⊢
  simp only [hU] at CK
  have wU2 : IntKind.i64.wrap (u - 1) = U := by rw [hU]; exact wU
  obtain ⟨P, hP⟩ : ∃ P, leaseP st e0 u r = P := ⟨_, rfl⟩
  simp only [hP] at CK LP
  rw [hP]
  obtain ⟨R, hR⟩ : ∃ R, chkE l 1 r 43 [P] D U U = R := ⟨_, rfl⟩
  simp only [hR] at CK
  rw [hR]
  have LI := Lib.hid (show (Tryz.prog.info? 26).map (·.size) = some (leaseC st e0 u r D).size by rw [lease_size _ _ _ _ _ hD]; kernel_rfl)
  have SI := Lib.hid (show (Tryz.prog.info? 24).map (·.size) = some (D.map Hs.bv).length by rw [List.length_map, hD]; kernel_rfl)
  obtain ⟨N, hN⟩ : ∃ N, l.length = N := ⟨_, rfl⟩
  simp only [hN] at CK
  rw [hN]
  clear hlk hp h1 h2 h3 h4 PS hP hR hD ok hN hsite hu hv hU
  obtain ⟨LC, hLC⟩ : ∃ C, leaseC st e0 u r D = C := ⟨_, rfl⟩
  obtain ⟨G, hG⟩ : ∃ G, w.heap.size = G := ⟨_, rfl⟩
  have HG := Lib.hid hG
  have Kx := Lib.hid (show Blk (w.alloc (.cells LC 26)) G 26 (leaseC st e0 u r D) from by rw [hLC]; exact (Blk.new' w _ _ _ hG rfl))
  have B0 := Lib.hid (show Below w.heap.size w (w.alloc (.cells LC 26)) by (repeat' (first | (with_reducible exact Below.refl _ _) | (with_reducible assumption) | (with_reducible refine Below.alloc ?_ ?_ _) | (with_reducible refine Below.drew ?_) | (with_reducible refine below_dn ?_) | (with_reducible refine Below.setCell ?_ ?_ _) | (with_reducible exact Nat.le_refl _) | omega | (simp only [World.size_alloc, World.size_setCell, World.size_drew]; omega) | (simp; omega) | (simp; done))))
  rw [hLC]
  clear hLC
  go_enter Tryz.func30, Tryz.ntmps30
  go_upto_region 1 with (fail)
  try rw [hG]
  generalize hw0 : (w.alloc (.cells LC 26)) = w0 at Kx B0 ⊢
  clear hw0 hG
  obtain ⟨x0, x1, x2, x3⟩ := lease_cells Kx.out
  go_wp2_with fail
  refine (SY.out _).mono ?_
  rintro e wz ⟨rfl, rfl⟩
  go_upto_region 9 with (fail)
  clear x0 x1 x2 x3
  refine wp_region_held_drew (S := fun W => Blk W G 26 (leaseC st e0 u r D)) (by kernel_rfl) Kx.out.drew (fun hHeld => ?_)
  replace B0 := Lib.hid B0.out.drew
  generalize w0.drew = w1 at B0 hHeld ⊢
  refine wpAnyH_take (i := 0) (v := .slice a N c) rfl (by kernel_rfl) (by kernel_rfl) (by kernel_rfl) (fun _ _ _ h => h) (Or.inl ⟨by rfl, fun W hW => by go_simp⟩) (by assumption) ?_
  (try simp only [Act.put, List.getElem_toArray, List.getElem_cons_succ, List.getElem_cons_zero, List.setIfInBounds_toArray, List.set_cons_zero, List.set_cons_succ])
  refine wpAnyH_take (i := 1) (v := .pointer (some ⟨G, 3, none⟩)) rfl (by kernel_rfl) (by kernel_rfl) (by kernel_rfl) (fun _ _ _ h => h) (Or.inl ⟨by rfl, fun W hW => by go_simp⟩) (by assumption) ?_
  (try simp only [Act.put, List.getElem_toArray, List.getElem_cons_succ, List.getElem_cons_zero, List.setIfInBounds_toArray, List.set_cons_zero, List.set_cons_succ])
  refine wpAnyH_take (i := 2) (v := .int .i64 r) rfl (by kernel_rfl) (by kernel_rfl) (by kernel_rfl) (fun _ _ _ h => h) (Or.inl ⟨by rfl, fun W hW => (by obtain ⟨x0, x1, x2, x3⟩ := lease_cells hW; go_simp)⟩) (by assumption) ?_
  (try simp only [Act.put, List.getElem_toArray, List.getElem_cons_succ, List.getElem_cons_zero, List.setIfInBounds_toArray, List.set_cons_zero, List.set_cons_succ])
  refine wpAnyH_take (i := 3) (v := .agg (leaseC st e0 u r D)) rfl (by kernel_rfl) (by kernel_rfl) (by kernel_rfl) (fun _ _ _ h => h) (Or.inl ⟨by rfl, fun W hW => exec_load_row 26 _ rfl G rfl 26 (leaseC st e0 u r D) (0, 0) _ hW Tryz.underlying26 rfl LI.out⟩) (by assumption) ?_
  (try simp only [Act.put, List.getElem_toArray, List.getElem_cons_succ, List.getElem_cons_zero, List.setIfInBounds_toArray, List.set_cons_zero, List.set_cons_succ])
  refine wpAnyH_take (i := 5) (v := .pointer (some ⟨G, 4, none⟩)) rfl (by kernel_rfl) (by kernel_rfl) (by kernel_rfl) (fun _ _ _ h => h) (Or.inl ⟨by rfl, fun W hW => by go_simp⟩) (by assumption) ?_
  (try simp only [Act.put, List.getElem_toArray, List.getElem_cons_succ, List.getElem_cons_zero, List.setIfInBounds_toArray, List.set_cons_zero, List.set_cons_succ])
  refine wpAnyH_take (i := 6) (v := .agg (D.map Hs.bv).toArray) rfl (by kernel_rfl) (by kernel_rfl) (by kernel_rfl) (fun _ _ _ h => h) (Or.inl ⟨by rfl, fun W hW => exec_load_mid 24 _ rfl G 4 rfl (D.map Hs.bv) _ (lease_seal hW) Tryz.underlying24 rfl SI.out⟩) (by assumption) ?_
  (try simp only [Act.put, List.getElem_toArray, List.getElem_cons_succ, List.getElem_cons_zero, List.setIfInBounds_toArray, List.set_cons_zero, List.set_cons_succ])
  refine wpAnyH_take (i := 7) (v := .pointer (some ⟨G, 2, none⟩)) rfl (by kernel_rfl) (by kernel_rfl) (by kernel_rfl) (fun _ _ _ h => h) (Or.inl ⟨by rfl, fun W hW => by go_simp⟩) (by assumption) ?_
  (try simp only [Act.put, List.getElem_toArray, List.getElem_cons_succ, List.getElem_cons_zero, List.setIfInBounds_toArray, List.set_cons_zero, List.set_cons_succ])
  refine wpAnyH_take (i := 8) (v := .int .i64 u) rfl (by kernel_rfl) (by kernel_rfl) (by kernel_rfl) (fun _ _ _ h => h) (Or.inl ⟨by rfl, fun W hW => (by obtain ⟨x0, x1, x2, x3⟩ := lease_cells hW; go_simp)⟩) (by assumption) ?_
  (try simp only [Act.put, List.getElem_toArray, List.getElem_cons_succ, List.getElem_cons_zero, List.setIfInBounds_toArray, List.set_cons_zero, List.set_cons_succ])
  refine wpAnyH_take (i := 9) (v := .int .i64 U) rfl (by kernel_rfl) (by kernel_rfl) (by kernel_rfl) (fun _ _ _ h => h) (Or.inl ⟨by rfl, fun W hW => by go_simp⟩) (by assumption) ?_
  (try simp only [Act.put, List.getElem_toArray, List.getElem_cons_succ, List.getElem_cons_zero, List.setIfInBounds_toArray, List.set_cons_zero, List.set_cons_succ])
  refine wpAnyH_take (i := 10) (v := .pointer (some ⟨G, 2, none⟩)) rfl (by kernel_rfl) (by kernel_rfl) (by kernel_rfl) (fun _ _ _ h => h) (Or.inl ⟨by rfl, fun W hW => by go_simp⟩) (by assumption) ?_
  (try simp only [Act.put, List.getElem_toArray, List.getElem_cons_succ, List.getElem_cons_zero, List.setIfInBounds_toArray, List.set_cons_zero, List.set_cons_succ])
  refine wpAnyH_take (i := 11) (v := .int .i64 u) rfl (by kernel_rfl) (by kernel_rfl) (by kernel_rfl) (fun _ _ _ h => h) (Or.inl ⟨by rfl, fun W hW => (by obtain ⟨x0, x1, x2, x3⟩ := lease_cells hW; go_simp)⟩) (by assumption) ?_
  (try simp only [Act.put, List.getElem_toArray, List.getElem_cons_succ, List.getElem_cons_zero, List.setIfInBounds_toArray, List.set_cons_zero, List.set_cons_succ])
  refine wpAnyH_take (i := 12) (v := .int .i64 U) rfl (by kernel_rfl) (by kernel_rfl) (by kernel_rfl) (fun _ _ _ h => h) (Or.inl ⟨by rfl, fun W hW => by go_simp⟩) (by assumption) ?_
  (try simp only [Act.put, List.getElem_toArray, List.getElem_cons_succ, List.getElem_cons_zero, List.setIfInBounds_toArray, List.set_cons_zero, List.set_cons_succ])
  refine wpAnyH_take (i := 13) (v := .agg #[.int .i64 U, .int .i64 U]) rfl (by kernel_rfl) (by kernel_rfl) (by kernel_rfl) (fun _ _ _ h => h) (Or.inl ⟨by rfl, fun W hW => by go_simp⟩) (by assumption) ?_
  (try simp only [Act.put, List.getElem_toArray, List.getElem_cons_succ, List.getElem_cons_zero, List.setIfInBounds_toArray, List.set_cons_zero, List.set_cons_succ])
  refine wpAnyH_ready (rs := [4]) (by kernel_rfl) (by simp) (AllReadyH.cons rfl (fun K hK => ?_) AllReadyH.nil)
  go_simp
  refine (LP.out _).mono ?_
  rintro e w3 ⟨⟨b, c2, rfl, hr⟩, hb⟩
  have HR := Lib.hid hr
  have hB3 := Lib.hid hb
  replace B0 := Lib.hid (B0.out.trans (hb.mono B0.out.size))
  clear hb hr
  go_wp2_with fail
  refine hK _ _ (hHeld.below hB3.out hHeld.lt) (fun hHeld1 => ?_)
  clear hK K
  (try simp only [Act.put, List.getElem_toArray, List.getElem_cons_succ, List.getElem_cons_zero, List.setIfInBounds_toArray, List.set_cons_zero, List.set_cons_succ])
  refine wpAnyH_ready (rs := [14]) (by kernel_rfl) (by simp) (AllReadyH.cons rfl (fun K hK => ?_) AllReadyH.nil)
  go_simp
  refine (CK.out b c2 _ (HR0.out.mono B0.out) HR.out (HLK.out.mono B0.out)).mono ?_
  rintro e w4 ⟨rfl, hb⟩
  have hB4 := Lib.hid hb
  replace B0 := Lib.hid (B0.out.trans (hb.mono B0.out.size))
  clear hb
  go_wp2_with fail
  refine hK _ _ (hHeld1.below hB4.out hHeld1.lt) (fun hHeld2 => ?_)
  clear hK K
  (try simp only [Act.put, List.getElem_toArray, List.getElem_cons_succ, List.getElem_cons_zero, List.setIfInBounds_toArray, List.set_cons_zero, List.set_cons_succ])
  refine wpAnyH_take (i := 15) (v := .int .i64 R) rfl (by kernel_rfl) (by kernel_rfl) (by kernel_rfl) (fun _ _ _ h => h) (Or.inl ⟨by rfl, fun W hW => by go_simp⟩) (by assumption) ?_
  (try simp only [Act.put, List.getElem_toArray, List.getElem_cons_succ, List.getElem_cons_zero, List.setIfInBounds_toArray, List.set_cons_zero, List.set_cons_succ])
  refine wpAnyH_done (by kernel_rfl) ?_ _
  go_wp2
  go_ret
  exact ⟨rfl, B0.out⟩
end Go.Proofs.YteblnmhaohbkkaaGreatDoor
