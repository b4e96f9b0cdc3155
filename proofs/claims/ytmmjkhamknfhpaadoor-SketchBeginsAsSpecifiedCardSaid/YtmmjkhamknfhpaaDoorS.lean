/- Contracts: the reference's Same, of two equal sketches; New of both side by side. -/
import Derived.Test.YtmmjkhamknfhpaaDoorN
import Derived.BigQuiet
import Derived.Lib.QuietBelow
namespace Go.Proofs.YtmmjkhamknfhpaaDoor
set_option linter.unusedVariables false
set_option linter.unusedSimpArgs false
open Go.RowKit Go.Sort
theorem grow_cell3 (w : World) (d : Nat) (os : Array Obj) (b o : Nat) (h : b < w.heap.size) : (grow (redrawn w d) os).cell? ⟨b, o, none⟩ = w.cell? ⟨b, o, none⟩ :=
  (below_regrown w d os).cell (p := ⟨b, o, none⟩) h
theorem below_of_grow3 {W W' : World} {d : Nat} {os : Array Obj} (h : W' = grow (redrawn W d) os) : Below W.heap.size W W' := h ▸ below_regrown W d os
theorem Ok.nat3 {W S A : Int} {l : List Int} (h : Ok W S A l) : ∃ N : Nat, W = (N : Int) ∧ (∃ k : Nat, k ≤ 12 ∧ N = 2 ^ k) ∧ l.length = 4 * N := by
  obtain ⟨k, -, hk⟩ := of_decide_eq_true h.two
  refine ⟨2 ^ k, hk, ⟨k, ?_, rfl⟩, ?_⟩
  · rcases Nat.lt_or_ge 12 k with h1 | h1
    · have h2 := Nat.pow_le_pow_right (n := 2) (by decide) (show 13 ≤ k by omega)
      have h3 : (2 : Nat) ^ 13 = 8192 := by decide
      have := h.w
      omega
    · exact h1
  · have := h.len
    omega
set_option maxRecDepth 100000 in
set_option maxHeartbeats 1000000 in
theorem same_true (W S A : Int) (a1 a2 : Option Addr) (c1 c2 : Nat) (l : List Int) (w : World) (hp1 : IntsA w a1 l) (hp2 : IntsA w a2 l) (hm : l.length ≤ 9223372036854775807) :
    Calls Tryd.prog 13 #[.agg #[.int .i64 W, .int .i64 S, .int .i64 A, .slice a1 l.length c1], .agg #[.int .i64 W, .int .i64 S, .int .i64 A, .slice a2 l.length c2]] w fun e w' => e = .returned (.bool true) ∧ Below w.heap.size w w' := by
  have HP := Lib.hid hp1
  have HQ := Lib.hid hp2
  obtain ⟨n, hn⟩ : ∃ n, l.length = n := ⟨_, rfl⟩
  have HE := Lib.hid hn
  rw [hn] at hm ⊢
  clear hp1 hp2 hn
  go_enter Tryd.func13, Tryd.ntmps13
  go_wp2
  go_loopw [5] (fun u5 wr => ∃ k : Nat, k ≤ n ∧ u5 = .int .i64 k ∧ Hid (Blk wr w.heap.size 24 #[.int .i64 W, .int .i64 S, .int .i64 A, .slice a1 n c1]) ∧ Hid (Blk wr (w.heap.size + 1) 24 #[.int .i64 W, .int .i64 S, .int .i64 A, .slice a2 n c2]) ∧ Hid (Below w.heap.size w wr)) (fun u5 _ => n - (intOf u5).toNat)
  case atStart => exact ⟨0, by omega, rfl, Lib.hid ((Blk.new' w _ _ _ rfl rfl).alloc _), Lib.hid (Blk.new' _ _ _ _ (World.size_alloc _ _) rfl), Lib.hid (by (repeat' (first | (with_reducible exact Below.refl _ _) | (with_reducible assumption) | (with_reducible refine Below.alloc ?_ ?_ _) | (with_reducible refine Below.drew ?_) | (with_reducible refine below_dn ?_) | (with_reducible refine Below.setCell ?_ ?_ _) | (with_reducible exact Nat.le_refl _) | omega | (simp only [World.size_alloc, World.size_setCell, World.size_drew]; omega) | (simp; omega) | (simp; done))))⟩
  case round =>
    obtain ⟨k, hk, rfl, K1, K2, BB⟩ := hrel
    have e3 : wr.cell? ⟨w.heap.size, 3, none⟩ = some (.slice a1 n c1) := K1.out.cell 3
    have e4 : wr.cell? ⟨w.heap.size + 1, 3, none⟩ = some (.slice a2 n c2) := K2.out.cell 3
    by_cases hlt : k < n
    · obtain ⟨b1, f1, rfl, q1⟩ := HP.out.mono BB.out k (by rw [HE.out]; exact hlt)
      obtain ⟨b2, f2, rfl, q2⟩ := HQ.out.mono BB.out k (by rw [HE.out]; exact hlt)
      obtain ⟨x, hx⟩ : ∃ x, l.getD k 0 = x := ⟨_, rfl⟩
      rw [hx] at q1 q2
      clear hx
      go_wp2
      go_quiet (fail)
      go_wp2
      go_roundw
      case rel => exact ⟨k + 1, by omega, by go_num, Lib.hid (K1.out.drewN _), Lib.hid (K2.out.drewN _), Lib.hid (below_dn BB.out)⟩
      case measure => simp [intOf]; omega
    · go_wp2
      go_ret
      exact ⟨rfl, BB.out⟩
theorem IntsA.none_ (w : World) : IntsA w none [] := fun k hk => absurd hk (by simp)
theorem new_both (W S : Int) (b1 : -9223372036854775808 ≤ W) (b2 : W ≤ 9223372036854775807) : ∃ (W' S' e : Int) (l : List Int), l.length ≤ 1000000 ∧
    (∀ X, Calls Tryd.prog 10 #[.int .i64 W, .int .i64 S] X fun r w' => (∃ a c, r = .returned (.tuple #[.agg #[.int .i64 W', .int .i64 S', .int .i64 0, .slice a l.length c], .int .i64 e]) ∧ IntsA w' a l) ∧ Below X.heap.size X w') ∧
    (∀ X, Calls Tryd.prog 11 #[.int .i64 W, .int .i64 S] X fun r w' => (∃ a c, r = .returned (.agg #[.int .i64 W', .int .i64 S', .int .i64 0, .slice a l.length c, .int .i64 e]) ∧ IntsA w' a l) ∧ Below X.heap.size X w') := by
  by_cases h : pw W = false ∨ S < 1
  · refine ⟨0, 0, 1, [], by simp, fun X => (new_arg W S X b1 b2 h).mono ?_, fun X => (newref_arg W S X b1 b2 h).mono ?_⟩
    · rintro r w' ⟨rfl, hb⟩; exact ⟨⟨none, 0, rfl, IntsA.none_ _⟩, hb⟩
    · rintro r w' ⟨rfl, hb⟩; exact ⟨⟨none, 0, rfl, IntsA.none_ _⟩, hb⟩
  · have hp : pw W = true := by cases hq : pw W; exact absurd (Or.inl hq) h; rfl
    have hS : 1 ≤ S := by have : ¬ S < 1 := fun q => h (Or.inr q); omega
    by_cases h2 : 4096 < W ∨ 1048576 < S
    · refine ⟨0, 0, 2, [], by simp, fun X => (new_limit W S X b1 b2 hp hS h2).mono ?_, fun X => (newref_limit W S X b1 b2 hp hS h2).mono ?_⟩
      · rintro r w' ⟨rfl, hb⟩; exact ⟨⟨none, 0, rfl, IntsA.none_ _⟩, hb⟩
      · rintro r w' ⟨rfl, hb⟩; exact ⟨⟨none, 0, rfl, IntsA.none_ _⟩, hb⟩
    · have h3 : W ≤ 4096 := by omega
      have h4 : S ≤ 1048576 := by omega
      have p0 := pw_pos hp
      obtain ⟨n, hn⟩ : ∃ n : Nat, (n : Int) = 4 * W := ⟨(4 * W).toNat, by omega⟩
      refine ⟨W, S, 0, List.replicate n 0, by rw [List.length_replicate]; omega, fun X => (new_ok W S X b1 b2 hp hS h3 h4 n hn).mono ?_, fun X => (newref_ok W S X b1 b2 hp hS h3 h4 n hn).mono ?_⟩
      · rintro r w' ⟨⟨g, rfl, hr⟩, hb⟩; exact ⟨⟨some ⟨g, 0, none⟩, n, by rw [List.length_replicate], hr.ints⟩, hb⟩
      · rintro r w' ⟨⟨g, rfl, hr⟩, hb⟩; exact ⟨⟨some ⟨g, 0, none⟩, n, by rw [List.length_replicate], hr.ints⟩, hb⟩
end Go.Proofs.YtmmjkhamknfhpaaDoor
