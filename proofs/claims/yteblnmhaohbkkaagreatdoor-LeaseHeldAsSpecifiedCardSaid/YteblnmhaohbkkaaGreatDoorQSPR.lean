/- Contracts: the parts of leases, heads and stamps of the reference. -/
import Derived.Test.YteblnmhaohbkkaaGreatDoorQSPT
import Derived.Test.YteblnmhaohbkkaaGreatDoorQSRI
namespace Go.Proofs.YteblnmhaohbkkaaGreatDoor
set_option linter.unusedVariables false
set_option linter.unusedSimpArgs false
open Go.RowKit Go.Sort
set_option maxRecDepth 100000 in
set_option maxHeartbeats 1000000 in
theorem rleaseParts_any (s e u r : Int) (D : List Nat) (w : World) (h1 : i64Ok s) (h2 : i64Ok e) (h3 : i64Ok u) (h4 : i64Ok r) :
    Calls Tryz.prog 52 #[.agg (leaseC s e u r D)] w fun e' w' => (∃ a c, e' = .returned (.slice a 1 c) ∧ StR w' a [leaseP s e u r]) ∧ Below w.heap.size w w' := by
  have NU := Lib.hid (fun (g : Nat) (X : World) (h : Blk X g 3 #[.int .i64 s, .int .i64 e, .int .i64 u, .int .i64 r]) => rints_any [s, e, u, r] 4 rfl (fun x hx => by
    simp only [List.mem_cons, List.not_mem_nil, or_false] at hx
    rcases hx with rfl | rfl | rfl | rfl <;> assumption) (by decide) g X h)
  obtain ⟨P, hP⟩ : ∃ P, leaseP s e u r = P := ⟨_, rfl⟩
  have hP2 : numP [s, e, u, r] = P := hP
  simp only [hP2] at NU
  rw [hP]
  clear hP hP2 h1 h2 h3 h4
  obtain ⟨C, hC⟩ : ∃ C, leaseC s e u r D = C := ⟨_, rfl⟩
  obtain ⟨G, hG⟩ : ∃ G, w.heap.size = G := ⟨_, rfl⟩
  have HG := Lib.hid hG
  have K1 := Lib.hid (show Blk (w.alloc (.cells C 26)) G 26 (leaseC s e u r D) from by rw [hC]; exact Blk.new' w _ _ _ hG rfl)
  have B := Lib.hid (show Below w.heap.size w (w.alloc (.cells C 26)) by (repeat' (first | (with_reducible exact Below.refl _ _) | (with_reducible assumption) | (with_reducible refine Below.alloc ?_ ?_ _) | (with_reducible refine Below.drew ?_) | (with_reducible refine below_dn ?_) | (with_reducible refine Below.setCell ?_ ?_ _) | (with_reducible exact Nat.le_refl _) | omega | (simp only [World.size_alloc, World.size_setCell, World.size_drew]; omega) | (simp; omega) | (simp; done))))
  rw [hC]
  clear hC
  go_enter Tryz.func52, Tryz.ntmps52
  go_upto_region 1 with (fail)
  try rw [hG]
  generalize hw0 : w.alloc (.cells C 26) = w0 at K1 B ⊢
  clear hw0 hG
  obtain ⟨d0, d1, d2, d3⟩ := lease_cells K1.out
  obtain ⟨Z, hZ⟩ : ∃ Z, w0.heap.size = Z := ⟨_, rfl⟩
  have K2 := Lib.hid (show Blk (w0.alloc (.cells #[.int .i64 s, .int .i64 e, .int .i64 u, .int .i64 r] 3)) Z 3 #[.int .i64 s, .int .i64 e, .int .i64 u, .int .i64 r] from Blk.new' w0 _ _ _ hZ rfl)
  have BB := Lib.hid (show Below w0.heap.size w0 (w0.alloc (.cells #[.int .i64 s, .int .i64 e, .int .i64 u, .int .i64 r] 3)) from by (repeat' (first | (with_reducible exact Below.refl _ _) | (with_reducible assumption) | (with_reducible refine Below.alloc ?_ ?_ _) | (with_reducible refine Below.drew ?_) | (with_reducible refine below_dn ?_) | (with_reducible refine Below.setCell ?_ ?_ _) | (with_reducible exact Nat.le_refl _) | omega | (simp only [World.size_alloc, World.size_setCell, World.size_drew]; omega) | (simp; omega) | (simp; done))))
  go_wp2_with fail
  try rw [hZ]
  refine (NU.out Z _ K2.out).mono ?_
  rintro e' w1 ⟨rfl, hb⟩
  replace B := Lib.hid (B.out.trans ((BB.out.trans (hb.mono BB.out.size)).mono B.out.size))
  clear hb K1 K2 BB NU d0 d1 d2 d3 hZ
  obtain ⟨Y, hY⟩ : ∃ Y, w1.heap.size = Y := ⟨_, rfl⟩
  have K3 := Lib.hid (show Blk (w1.alloc (.cells #[.string P] 9)) Y 9 #[.string P] from Blk.new' w1 _ _ _ hY rfl)
  replace B := Lib.hid (B.out.alloc B.out.size (.cells #[.string P] 9))
  go_wp2
  try rw [hY]
  go_ret
  exact ⟨⟨_, _, rfl, one_str _ _ P (oneb K3.out)⟩, B.out⟩
end Go.Proofs.YteblnmhaohbkkaaGreatDoor
