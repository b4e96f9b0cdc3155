/- The law BucketPartsMatchSpec, walked. -/
import Derived.Test.YtigalbgailnicaaR8
import Derived.Test.YtigalbgailnicaaR7
import Derived.Test.YtigalbgailnicaaP8a
import Derived.Test.YtigalbgailnicaaH
namespace Go.Proofs.Ytigalbgailnicaa
set_option linter.unusedVariables false
set_option linter.unusedSimpArgs false
open Go.RowKit Go.Sort
theorem bkts_none (W : World) (a : Option Addr) : BktsA W a [] := fun k hk => absurd hk (by simp)
theorem bkts_parts {W : World} {g : Nat} (l d a : Int) (cs ns : List Int) (h : ∀ k, k < cs.length → PartIs W g k (partK l d a cs ns k)) : BktsA W (some ⟨g, 0, none⟩) (parts l d a cs ns) := by
  have : PartsAt W g (parts l d a cs ns) := fun k hk => by
    rw [parts_len] at hk
    rw [parts_at _ _ _ _ _ _ hk]
    exact h k hk
  exact this.bkts
/-- Split and the reference's Split answer the same. -/
theorem split_both (c n d l a : Int) (ac an : Option Addr) (capc capn : Nat) (cs ns : List Int) (hm : cs.length ≤ 9223372036854775807) (hm2 : ns.length ≤ 9223372036854775807) :
    ∃ (ps : List Bk) (er : Int), ps.length ≤ 64 ∧
    (∀ W, IntsA .i64 W ac cs → IntsA .i64 W an ns → Calls Try.prog 24 #[bk c n d l a, .slice ac cs.length capc, .slice an ns.length capn] W fun r W' => ∃ p q, r = .returned (.tuple #[.slice p ps.length q, .int .i64 er]) ∧ BktsA W' p ps ∧ Below W.heap.size W W') ∧
    (∀ W, IntsA .i64 W ac cs → IntsA .i64 W an ns → Calls Try.prog 26 #[bk c n d l a, .slice ac cs.length capc, .slice an ns.length capn] W fun r W' => ∃ p q, r = .returned (par (.slice p ps.length q) er) ∧ BktsA W' p ps ∧ Below W.heap.size W W') := by
  have bad : (∀ W, IntsA .i64 W ac cs → IntsA .i64 W an ns → Calls Try.prog 24 #[bk c n d l a, .slice ac cs.length capc, .slice an ns.length capn] W fun e w' => e = .returned (.tuple #[.slice none 0 0, .int .i64 1]) ∧ Below W.heap.size W w') →
      (∀ W, IntsA .i64 W ac cs → IntsA .i64 W an ns → Calls Try.prog 26 #[bk c n d l a, .slice ac cs.length capc, .slice an ns.length capn] W fun e w' => e = .returned (par (.slice none 0 0) 1) ∧ Below W.heap.size W w') →
      ∃ (ps : List Bk) (er : Int), ps.length ≤ 64 ∧
    (∀ W, IntsA .i64 W ac cs → IntsA .i64 W an ns → Calls Try.prog 24 #[bk c n d l a, .slice ac cs.length capc, .slice an ns.length capn] W fun r W' => ∃ p q, r = .returned (.tuple #[.slice p ps.length q, .int .i64 er]) ∧ BktsA W' p ps ∧ Below W.heap.size W W') ∧
    (∀ W, IntsA .i64 W ac cs → IntsA .i64 W an ns → Calls Try.prog 26 #[bk c n d l a, .slice ac cs.length capc, .slice an ns.length capn] W fun r W' => ∃ p q, r = .returned (par (.slice p ps.length q) er) ∧ BktsA W' p ps ∧ Below W.heap.size W W') := fun i j =>
    ⟨[], 1, by simp, fun W h1 h2 => (i W h1 h2).mono fun e W' ⟨k1, k2⟩ => ⟨none, 0, k1, bkts_none _ _, k2⟩, fun W h1 h2 => (j W h1 h2).mono fun e W' ⟨k1, k2⟩ => ⟨none, 0, k1, bkts_none _ _, k2⟩⟩
  by_cases h : OkB c n d l a
  · by_cases k1 : cs.length < 1
    · exact bad (fun W _ _ => split_few c n d l a ac an capc capn cs ns W hm hm2 h k1) (fun W _ _ => splitref_few c n d l a ac an capc capn cs ns W hm hm2 h k1)
    · by_cases k2 : 64 < cs.length
      · exact bad (fun W _ _ => split_many c n d l a ac an capc capn cs ns W hm hm2 h k2) (fun W _ _ => splitref_many c n d l a ac an capc capn cs ns W hm hm2 h k2)
      · by_cases k3 : ns.length = cs.length
        · cases b1 : addB c cs
          · exact bad (fun W hc hn => split_sum1 c n d l a ac an capc capn cs ns W h (by omega) (by omega) k3 hc hn b1) (fun W hc hn => splitref_sum1 c n d l a ac an capc capn cs ns W h (by omega) (by omega) k3 hc hn b1)
          · cases b2 : addB n ns
            · exact bad (fun W hc hn => split_sum2 c n d l a ac an capc capn cs ns W h (by omega) (by omega) k3 hc hn b1 b2) (fun W hc hn => splitref_sum2 c n d l a ac an capc capn cs ns W h (by omega) (by omega) k3 hc hn b1 b2)
            · refine ⟨parts l d a cs ns, 0, by rw [parts_len]; omega, fun W hc hn => ?_, fun W hc hn => ?_⟩
              · have := split_ok c n d l a ac an capc capn cs ns W h hc hn (by omega) (by omega) k3 b1 b2
                rw [k3, parts_len]
                exact this.mono fun e W' ⟨g, q1, q2, q3, q4, q5⟩ => ⟨_, _, q1, bkts_parts l d a cs ns q3, q5⟩
              · have := splitref_ok c n d l a ac an capc capn cs ns W h hc hn (by omega) (by omega) k3 b1 b2
                rw [k3, parts_len]
                exact this.mono fun e W' ⟨g, q, q1, q2, q3, q4⟩ => ⟨_, _, q1, bkts_parts l d a cs ns q3, q4⟩
        · exact bad (fun W _ _ => split_len c n d l a ac an capc capn cs ns W hm hm2 h (by omega) (by omega) k3) (fun W _ _ => splitref_len c n d l a ac an capc capn cs ns W hm hm2 h (by omega) (by omega) k3)
  · exact bad (fun W _ _ => split_bad c n d l a ac an capc capn cs ns W hm hm2 h) (fun W _ _ => splitref_bad c n d l a ac an capc capn cs ns W hm hm2 h)
theorem least_bad (p : Nat → Prop) : ∀ n : Nat, (∀ k, k < n → p k) ∨ ∃ m, m < n ∧ (∀ k, k < m → p k) ∧ ¬ p m
  | 0 => Or.inl fun k hk => absurd hk (by omega)
  | n + 1 => by
    rcases least_bad p n with h | ⟨m, h1, h2, h3⟩
    · by_cases hp : p n
      · exact Or.inl fun k hk => by
          by_cases e : k = n
          · subst e; exact hp
          · exact h k (by omega)
      · exact Or.inr ⟨n, by omega, h, hp⟩
    · exact Or.inr ⟨m, by omega, h2, h3⟩
/-- Merge and the reference's Merge answer the same. -/
theorem merge_both (bs : List Bk) (p : Option Addr) (cap : Nat) (hm : bs.length ≤ 9223372036854775807) :
    ∃ c n d l a er : Int, (∀ W, BktsA W p bs → Calls Try.prog 25 #[.slice p bs.length cap] W fun e w' => e = .returned (.tuple #[bk c n d l a, .int .i64 er]) ∧ Below W.heap.size W w') ∧
      (∀ W, BktsA W p bs → Calls Try.prog 27 #[.slice p bs.length cap] W fun e w' => e = .returned (made c n d l a er) ∧ Below W.heap.size W w') := by
  by_cases h : bs.length < 1 ∨ 64 < bs.length
  · exact ⟨0, 0, 0, 0, 0, 1, fun W _ => merge_len bs p cap W hm h, fun W _ => mergeref_len bs p cap W hm h⟩
  · rcases least_bad (Goes bs) bs.length with g | ⟨m, h1, h2, h3⟩
    · by_cases ok : OkB (tsum Bk.c bs) (tsum Bk.n bs) (bs.getD 0 Bk.zero).d (tsum Bk.l bs) (bs.getD 0 Bk.zero).a
      · exact ⟨_, _, _, _, _, 0, fun W hp => merge_ok bs p cap bs.length W hp (by omega) (by omega) g rfl ok, fun W hp => mergeref_ok bs p cap bs.length W hp (by omega) (by omega) g rfl ok⟩
      · exact ⟨0, 0, 0, 0, 0, 1, fun W hp => merge_no bs p cap bs.length W hp (by omega) (by omega) g rfl ok, fun W hp => mergeref_no bs p cap bs.length W hp (by omega) (by omega) g rfl ok⟩
    · exact ⟨0, 0, 0, 0, 0, 1, fun W hp => merge_bad bs p cap m W hp (by omega) (by omega) h2 h1 h3, fun W hp => mergeref_bad bs p cap m W hp (by omega) (by omega) h2 h1 h3⟩
set_option maxRecDepth 100000 in
set_option maxHeartbeats 4000000 in
theorem partsMatch (c n d l a : Int) (ac an ab : Option Addr) (capc capn capb : Nat) (cs ns : List Int) (bs : List Bk) (w : World) (hc : IntsA .i64 w ac cs) (hn : IntsA .i64 w an ns) (hb : BktsA w ab bs) (hm1 : cs.length ≤ 9223372036854775807) (hm2 : ns.length ≤ 9223372036854775807) (hm3 : bs.length ≤ 9223372036854775807) :
    Calls Try.prog 4 #[bk c n d l a, .slice ac cs.length capc, .slice an ns.length capn, .slice ab bs.length capb] w fun e w' => e = .returned (.bool true) ∧ Below w.heap.size w w' := by
  have HC := Lib.hid hc; have HN := Lib.hid hn; have HB := Lib.hid hb
  obtain ⟨ps, er, hps, i1, j1⟩ := split_both c n d l a ac an capc capn cs ns hm1 hm2
  obtain ⟨mc, mn, md, ml, ma, me, i2, j2⟩ := merge_both bs ab capb hm3
  have I1 := Lib.hid i1; have J1 := Lib.hid j1; have I2 := Lib.hid i2; have J2 := Lib.hid j2
  clear hc hn hb i1 j1 i2 j2
  by_cases h1 : 70 < cs.length
  · go_enter Try.func4, Try.ntmps4
    go_wp2_with fail
    refine (sane' _).mono ?_
    rintro e w1 ⟨rfl, hb1⟩
    have B1 : Below w.heap.size w w1 := bt (by (repeat' (first | (with_reducible exact Below.refl _ _) | (with_reducible assumption) | (with_reducible refine Below.alloc ?_ ?_ _) | (with_reducible refine Below.drew ?_) | (with_reducible refine below_dn ?_) | (with_reducible refine Below.setCell ?_ ?_ _) | (with_reducible exact Nat.le_refl _) | omega | (simp only [World.size_alloc, World.size_setCell, World.size_drew]; omega) | (simp; omega) | (simp; done)))) hb1
    have s1 : w.heap.size ≤ w1.heap.size := B1.size
    clear hb1
    go_wp2
    go_ret
    exact ⟨rfl, by (repeat' (first | (with_reducible exact Below.refl _ _) | (with_reducible assumption) | (with_reducible refine Below.alloc ?_ ?_ _) | (with_reducible refine Below.drew ?_) | (with_reducible refine below_dn ?_) | (with_reducible refine Below.setCell ?_ ?_ _) | (with_reducible exact Nat.le_refl _) | omega | (simp only [World.size_alloc, World.size_setCell, World.size_drew]; omega) | (simp; omega) | (simp; done)))⟩
  by_cases h2 : 70 < ns.length
  · go_enter Try.func4, Try.ntmps4
    go_wp2_with fail
    refine (sane' _).mono ?_
    rintro e w1 ⟨rfl, hb1⟩
    have B1 : Below w.heap.size w w1 := bt (by (repeat' (first | (with_reducible exact Below.refl _ _) | (with_reducible assumption) | (with_reducible refine Below.alloc ?_ ?_ _) | (with_reducible refine Below.drew ?_) | (with_reducible refine below_dn ?_) | (with_reducible refine Below.setCell ?_ ?_ _) | (with_reducible exact Nat.le_refl _) | omega | (simp only [World.size_alloc, World.size_setCell, World.size_drew]; omega) | (simp; omega) | (simp; done)))) hb1
    have s1 : w.heap.size ≤ w1.heap.size := B1.size
    clear hb1
    go_wp2
    go_ret
    exact ⟨rfl, by (repeat' (first | (with_reducible exact Below.refl _ _) | (with_reducible assumption) | (with_reducible refine Below.alloc ?_ ?_ _) | (with_reducible refine Below.drew ?_) | (with_reducible refine below_dn ?_) | (with_reducible refine Below.setCell ?_ ?_ _) | (with_reducible exact Nat.le_refl _) | omega | (simp only [World.size_alloc, World.size_setCell, World.size_drew]; omega) | (simp; omega) | (simp; done)))⟩
  by_cases h3 : 70 < bs.length
  · go_enter Try.func4, Try.ntmps4
    go_wp2_with fail
    refine (sane' _).mono ?_
    rintro e w1 ⟨rfl, hb1⟩
    have B1 : Below w.heap.size w w1 := bt (by (repeat' (first | (with_reducible exact Below.refl _ _) | (with_reducible assumption) | (with_reducible refine Below.alloc ?_ ?_ _) | (with_reducible refine Below.drew ?_) | (with_reducible refine below_dn ?_) | (with_reducible refine Below.setCell ?_ ?_ _) | (with_reducible exact Nat.le_refl _) | omega | (simp only [World.size_alloc, World.size_setCell, World.size_drew]; omega) | (simp; omega) | (simp; done)))) hb1
    have s1 : w.heap.size ≤ w1.heap.size := B1.size
    clear hb1
    go_wp2
    go_ret
    exact ⟨rfl, by (repeat' (first | (with_reducible exact Below.refl _ _) | (with_reducible assumption) | (with_reducible refine Below.alloc ?_ ?_ _) | (with_reducible refine Below.drew ?_) | (with_reducible refine below_dn ?_) | (with_reducible refine Below.setCell ?_ ?_ _) | (with_reducible exact Nat.le_refl _) | omega | (simp only [World.size_alloc, World.size_setCell, World.size_drew]; omega) | (simp; omega) | (simp; done)))⟩
  go_enter Try.func4, Try.ntmps4
  go_wp2_with fail
  refine (I1.out _ (HC.out.mono (by (repeat' (first | (with_reducible exact Below.refl _ _) | (with_reducible assumption) | (with_reducible refine Below.alloc ?_ ?_ _) | (with_reducible refine Below.drew ?_) | (with_reducible refine below_dn ?_) | (with_reducible refine Below.setCell ?_ ?_ _) | (with_reducible exact Nat.le_refl _) | omega | (simp only [World.size_alloc, World.size_setCell, World.size_drew]; omega) | (simp; omega) | (simp; done))))) (HN.out.mono (by (repeat' (first | (with_reducible exact Below.refl _ _) | (with_reducible assumption) | (with_reducible refine Below.alloc ?_ ?_ _) | (with_reducible refine Below.drew ?_) | (with_reducible refine below_dn ?_) | (with_reducible refine Below.setCell ?_ ?_ _) | (with_reducible exact Nat.le_refl _) | omega | (simp only [World.size_alloc, World.size_setCell, World.size_drew]; omega) | (simp; omega) | (simp; done)))))).mono ?_
  rintro e w1 ⟨p1, q1, rfl, y1, hb1⟩
  have B1 : Below w.heap.size w w1 := bt (by (repeat' (first | (with_reducible exact Below.refl _ _) | (with_reducible assumption) | (with_reducible refine Below.alloc ?_ ?_ _) | (with_reducible refine Below.drew ?_) | (with_reducible refine below_dn ?_) | (with_reducible refine Below.setCell ?_ ?_ _) | (with_reducible exact Nat.le_refl _) | omega | (simp only [World.size_alloc, World.size_setCell, World.size_drew]; omega) | (simp; omega) | (simp; done)))) hb1
  have s1 : w.heap.size ≤ w1.heap.size := B1.size
  have z1_b : w.heap.size < w1.heap.size := by (have := hb1.size; (try simp at this); omega)
  have x1_b : w.heap.size ≤ w1.heap.size := Nat.le_of_lt z1_b
  have d1_b_0 : w1.cell? ⟨w.heap.size, 0, none⟩ = some (.int .i64 c) := keep (by go_cell) hb1
  have d1_b_1 : w1.cell? ⟨w.heap.size, 1, none⟩ = some (.int .i64 n) := keep (by go_cell) hb1
  have d1_b_2 : w1.cell? ⟨w.heap.size, 2, none⟩ = some (.int .i64 d) := keep (by go_cell) hb1
  have d1_b_3 : w1.cell? ⟨w.heap.size, 3, none⟩ = some (.int .i64 l) := keep (by go_cell) hb1
  have d1_b_4 : w1.cell? ⟨w.heap.size, 4, none⟩ = some (.int .i64 a) := keep (by go_cell) hb1
  clear hb1
  have Y1 := Lib.hid y1
  clear y1
  go_wp2_with fail
  refine (I2.out _ (HB.out.mono (by (repeat' (first | (with_reducible exact Below.refl _ _) | (with_reducible assumption) | (with_reducible refine Below.alloc ?_ ?_ _) | (with_reducible refine Below.drew ?_) | (with_reducible refine below_dn ?_) | (with_reducible refine Below.setCell ?_ ?_ _) | (with_reducible exact Nat.le_refl _) | omega | (simp only [World.size_alloc, World.size_setCell, World.size_drew]; omega) | (simp; omega) | (simp; done)))))).mono ?_
  rintro e w2 ⟨rfl, hb2⟩
  have Y1 := Lib.hid (Y1.out.mono (bt (by (repeat' (first | (with_reducible exact Below.refl _ _) | (with_reducible assumption) | (with_reducible refine Below.alloc ?_ ?_ _) | (with_reducible refine Below.drew ?_) | (with_reducible refine below_dn ?_) | (with_reducible refine Below.setCell ?_ ?_ _) | (with_reducible exact Nat.le_refl _) | omega | (simp only [World.size_alloc, World.size_setCell, World.size_drew]; omega) | (simp; omega) | (simp; done)))) hb2))
  have B2 : Below w.heap.size w w2 := bt (by (repeat' (first | (with_reducible exact Below.refl _ _) | (with_reducible assumption) | (with_reducible refine Below.alloc ?_ ?_ _) | (with_reducible refine Below.drew ?_) | (with_reducible refine below_dn ?_) | (with_reducible refine Below.setCell ?_ ?_ _) | (with_reducible exact Nat.le_refl _) | omega | (simp only [World.size_alloc, World.size_setCell, World.size_drew]; omega) | (simp; omega) | (simp; done)))) hb2
  have s2 : w.heap.size ≤ w2.heap.size := B2.size
  have z2_b : w.heap.size < w2.heap.size := by (have := hb2.size; (try simp at this); omega)
  have x2_b : w.heap.size ≤ w2.heap.size := Nat.le_of_lt z2_b
  have d2_b_0 : w2.cell? ⟨w.heap.size, 0, none⟩ = some (.int .i64 c) := keep (by go_cell) hb2
  have d2_b_1 : w2.cell? ⟨w.heap.size, 1, none⟩ = some (.int .i64 n) := keep (by go_cell) hb2
  have d2_b_2 : w2.cell? ⟨w.heap.size, 2, none⟩ = some (.int .i64 d) := keep (by go_cell) hb2
  have d2_b_3 : w2.cell? ⟨w.heap.size, 3, none⟩ = some (.int .i64 l) := keep (by go_cell) hb2
  have d2_b_4 : w2.cell? ⟨w.heap.size, 4, none⟩ = some (.int .i64 a) := keep (by go_cell) hb2
  clear hb2 d1_b_0 d1_b_1 d1_b_2 d1_b_3 d1_b_4
  go_wp2_with fail
  refine (J1.out _ (HC.out.mono (by (repeat' (first | (with_reducible exact Below.refl _ _) | (with_reducible assumption) | (with_reducible refine Below.alloc ?_ ?_ _) | (with_reducible refine Below.drew ?_) | (with_reducible refine below_dn ?_) | (with_reducible refine Below.setCell ?_ ?_ _) | (with_reducible exact Nat.le_refl _) | omega | (simp only [World.size_alloc, World.size_setCell, World.size_drew]; omega) | (simp; omega) | (simp; done))))) (HN.out.mono (by (repeat' (first | (with_reducible exact Below.refl _ _) | (with_reducible assumption) | (with_reducible refine Below.alloc ?_ ?_ _) | (with_reducible refine Below.drew ?_) | (with_reducible refine below_dn ?_) | (with_reducible refine Below.setCell ?_ ?_ _) | (with_reducible exact Nat.le_refl _) | omega | (simp only [World.size_alloc, World.size_setCell, World.size_drew]; omega) | (simp; omega) | (simp; done)))))).mono ?_
  rintro e w3 ⟨p2, q2, rfl, y2, hb3⟩
  have Y1 := Lib.hid (Y1.out.mono (bt (by (repeat' (first | (with_reducible exact Below.refl _ _) | (with_reducible assumption) | (with_reducible refine Below.alloc ?_ ?_ _) | (with_reducible refine Below.drew ?_) | (with_reducible refine below_dn ?_) | (with_reducible refine Below.setCell ?_ ?_ _) | (with_reducible exact Nat.le_refl _) | omega | (simp only [World.size_alloc, World.size_setCell, World.size_drew]; omega) | (simp; omega) | (simp; done)))) hb3))
  have Y2 := Lib.hid y2
  clear y2
  have B3 : Below w.heap.size w w3 := bt (by (repeat' (first | (with_reducible exact Below.refl _ _) | (with_reducible assumption) | (with_reducible refine Below.alloc ?_ ?_ _) | (with_reducible refine Below.drew ?_) | (with_reducible refine below_dn ?_) | (with_reducible refine Below.setCell ?_ ?_ _) | (with_reducible exact Nat.le_refl _) | omega | (simp only [World.size_alloc, World.size_setCell, World.size_drew]; omega) | (simp; omega) | (simp; done)))) hb3
  have s3 : w.heap.size ≤ w3.heap.size := B3.size
  have z3_b : w.heap.size < w3.heap.size := by (have := hb3.size; (try simp at this); omega)
  have x3_b : w.heap.size ≤ w3.heap.size := Nat.le_of_lt z3_b
  have d3_b_0 : w3.cell? ⟨w.heap.size, 0, none⟩ = some (.int .i64 c) := keep (by go_cell) hb3
  have d3_b_1 : w3.cell? ⟨w.heap.size, 1, none⟩ = some (.int .i64 n) := keep (by go_cell) hb3
  have d3_b_2 : w3.cell? ⟨w.heap.size, 2, none⟩ = some (.int .i64 d) := keep (by go_cell) hb3
  have d3_b_3 : w3.cell? ⟨w.heap.size, 3, none⟩ = some (.int .i64 l) := keep (by go_cell) hb3
  have d3_b_4 : w3.cell? ⟨w.heap.size, 4, none⟩ = some (.int .i64 a) := keep (by go_cell) hb3
  have z3_m : w2.heap.size < w3.heap.size := by (have := hb3.size; (try simp at this); omega)
  have x3_m : w2.heap.size ≤ w3.heap.size := Nat.le_of_lt z3_m
  have d3_m_0 : w3.cell? ⟨w2.heap.size, 0, none⟩ = some (.int .i64 mc) := keep (by go_cell) hb3
  have d3_m_1 : w3.cell? ⟨w2.heap.size, 1, none⟩ = some (.int .i64 mn) := keep (by go_cell) hb3
  have d3_m_2 : w3.cell? ⟨w2.heap.size, 2, none⟩ = some (.int .i64 md) := keep (by go_cell) hb3
  have d3_m_3 : w3.cell? ⟨w2.heap.size, 3, none⟩ = some (.int .i64 ml) := keep (by go_cell) hb3
  have d3_m_4 : w3.cell? ⟨w2.heap.size, 4, none⟩ = some (.int .i64 ma) := keep (by go_cell) hb3
  clear hb3 d2_b_0 d2_b_1 d2_b_2 d2_b_3 d2_b_4
  go_wp2_with fail
  refine (J2.out _ (HB.out.mono (by (repeat' (first | (with_reducible exact Below.refl _ _) | (with_reducible assumption) | (with_reducible refine Below.alloc ?_ ?_ _) | (with_reducible refine Below.drew ?_) | (with_reducible refine below_dn ?_) | (with_reducible refine Below.setCell ?_ ?_ _) | (with_reducible exact Nat.le_refl _) | omega | (simp only [World.size_alloc, World.size_setCell, World.size_drew]; omega) | (simp; omega) | (simp; done)))))).mono ?_
  rintro e w4 ⟨rfl, hb4⟩
  have Y1 := Lib.hid (Y1.out.mono (bt (by (repeat' (first | (with_reducible exact Below.refl _ _) | (with_reducible assumption) | (with_reducible refine Below.alloc ?_ ?_ _) | (with_reducible refine Below.drew ?_) | (with_reducible refine below_dn ?_) | (with_reducible refine Below.setCell ?_ ?_ _) | (with_reducible exact Nat.le_refl _) | omega | (simp only [World.size_alloc, World.size_setCell, World.size_drew]; omega) | (simp; omega) | (simp; done)))) hb4))
  have Y2 := Lib.hid (Y2.out.mono (bt (by (repeat' (first | (with_reducible exact Below.refl _ _) | (with_reducible assumption) | (with_reducible refine Below.alloc ?_ ?_ _) | (with_reducible refine Below.drew ?_) | (with_reducible refine below_dn ?_) | (with_reducible refine Below.setCell ?_ ?_ _) | (with_reducible exact Nat.le_refl _) | omega | (simp only [World.size_alloc, World.size_setCell, World.size_drew]; omega) | (simp; omega) | (simp; done)))) hb4))
  have B4 : Below w.heap.size w w4 := bt (by (repeat' (first | (with_reducible exact Below.refl _ _) | (with_reducible assumption) | (with_reducible refine Below.alloc ?_ ?_ _) | (with_reducible refine Below.drew ?_) | (with_reducible refine below_dn ?_) | (with_reducible refine Below.setCell ?_ ?_ _) | (with_reducible exact Nat.le_refl _) | omega | (simp only [World.size_alloc, World.size_setCell, World.size_drew]; omega) | (simp; omega) | (simp; done)))) hb4
  have s4 : w.heap.size ≤ w4.heap.size := B4.size
  have z4_b : w.heap.size < w4.heap.size := by (have := hb4.size; (try simp at this); omega)
  have x4_b : w.heap.size ≤ w4.heap.size := Nat.le_of_lt z4_b
  have d4_b_0 : w4.cell? ⟨w.heap.size, 0, none⟩ = some (.int .i64 c) := keep (by go_cell) hb4
  have d4_b_1 : w4.cell? ⟨w.heap.size, 1, none⟩ = some (.int .i64 n) := keep (by go_cell) hb4
  have d4_b_2 : w4.cell? ⟨w.heap.size, 2, none⟩ = some (.int .i64 d) := keep (by go_cell) hb4
  have d4_b_3 : w4.cell? ⟨w.heap.size, 3, none⟩ = some (.int .i64 l) := keep (by go_cell) hb4
  have d4_b_4 : w4.cell? ⟨w.heap.size, 4, none⟩ = some (.int .i64 a) := keep (by go_cell) hb4
  have z4_m : w2.heap.size < w4.heap.size := by (have := hb4.size; (try simp at this); omega)
  have x4_m : w2.heap.size ≤ w4.heap.size := Nat.le_of_lt z4_m
  have d4_m_0 : w4.cell? ⟨w2.heap.size, 0, none⟩ = some (.int .i64 mc) := keep (by go_cell) hb4
  have d4_m_1 : w4.cell? ⟨w2.heap.size, 1, none⟩ = some (.int .i64 mn) := keep (by go_cell) hb4
  have d4_m_2 : w4.cell? ⟨w2.heap.size, 2, none⟩ = some (.int .i64 md) := keep (by go_cell) hb4
  have d4_m_3 : w4.cell? ⟨w2.heap.size, 3, none⟩ = some (.int .i64 ml) := keep (by go_cell) hb4
  have d4_m_4 : w4.cell? ⟨w2.heap.size, 4, none⟩ = some (.int .i64 ma) := keep (by go_cell) hb4
  have z4_x : w3.heap.size < w4.heap.size := by (have := hb4.size; (try simp at this); omega)
  have x4_x : w3.heap.size ≤ w4.heap.size := Nat.le_of_lt z4_x
  have d4_x_0 : w4.cell? ⟨w3.heap.size, 0, none⟩ = some (.slice p2 ps.length q2) := keep (by go_cell) hb4
  have d4_x_1 : w4.cell? ⟨w3.heap.size, 1, none⟩ = some (.int .i64 er) := keep (by go_cell) hb4
  clear hb4 d3_b_0 d3_b_1 d3_b_2 d3_b_3 d3_b_4 d3_m_0 d3_m_1 d3_m_2 d3_m_3 d3_m_4
  go_wp2_with fail
  refine (sane' _).mono ?_
  rintro e w5 ⟨rfl, hb5⟩
  have Y1 := Lib.hid (Y1.out.mono (bt (by (repeat' (first | (with_reducible exact Below.refl _ _) | (with_reducible assumption) | (with_reducible refine Below.alloc ?_ ?_ _) | (with_reducible refine Below.drew ?_) | (with_reducible refine below_dn ?_) | (with_reducible refine Below.setCell ?_ ?_ _) | (with_reducible exact Nat.le_refl _) | omega | (simp only [World.size_alloc, World.size_setCell, World.size_drew]; omega) | (simp; omega) | (simp; done)))) hb5))
  have Y2 := Lib.hid (Y2.out.mono (bt (by (repeat' (first | (with_reducible exact Below.refl _ _) | (with_reducible assumption) | (with_reducible refine Below.alloc ?_ ?_ _) | (with_reducible refine Below.drew ?_) | (with_reducible refine below_dn ?_) | (with_reducible refine Below.setCell ?_ ?_ _) | (with_reducible exact Nat.le_refl _) | omega | (simp only [World.size_alloc, World.size_setCell, World.size_drew]; omega) | (simp; omega) | (simp; done)))) hb5))
  have B5 : Below w.heap.size w w5 := bt (by (repeat' (first | (with_reducible exact Below.refl _ _) | (with_reducible assumption) | (with_reducible refine Below.alloc ?_ ?_ _) | (with_reducible refine Below.drew ?_) | (with_reducible refine below_dn ?_) | (with_reducible refine Below.setCell ?_ ?_ _) | (with_reducible exact Nat.le_refl _) | omega | (simp only [World.size_alloc, World.size_setCell, World.size_drew]; omega) | (simp; omega) | (simp; done)))) hb5
  have s5 : w.heap.size ≤ w5.heap.size := B5.size
  have z5_b : w.heap.size < w5.heap.size := by (have := hb5.size; (try simp at this); omega)
  have x5_b : w.heap.size ≤ w5.heap.size := Nat.le_of_lt z5_b
  have d5_b_0 : w5.cell? ⟨w.heap.size, 0, none⟩ = some (.int .i64 c) := keep (by go_cell) hb5
  have d5_b_1 : w5.cell? ⟨w.heap.size, 1, none⟩ = some (.int .i64 n) := keep (by go_cell) hb5
  have d5_b_2 : w5.cell? ⟨w.heap.size, 2, none⟩ = some (.int .i64 d) := keep (by go_cell) hb5
  have d5_b_3 : w5.cell? ⟨w.heap.size, 3, none⟩ = some (.int .i64 l) := keep (by go_cell) hb5
  have d5_b_4 : w5.cell? ⟨w.heap.size, 4, none⟩ = some (.int .i64 a) := keep (by go_cell) hb5
  have z5_m : w2.heap.size < w5.heap.size := by (have := hb5.size; (try simp at this); omega)
  have x5_m : w2.heap.size ≤ w5.heap.size := Nat.le_of_lt z5_m
  have d5_m_0 : w5.cell? ⟨w2.heap.size, 0, none⟩ = some (.int .i64 mc) := keep (by go_cell) hb5
  have d5_m_1 : w5.cell? ⟨w2.heap.size, 1, none⟩ = some (.int .i64 mn) := keep (by go_cell) hb5
  have d5_m_2 : w5.cell? ⟨w2.heap.size, 2, none⟩ = some (.int .i64 md) := keep (by go_cell) hb5
  have d5_m_3 : w5.cell? ⟨w2.heap.size, 3, none⟩ = some (.int .i64 ml) := keep (by go_cell) hb5
  have d5_m_4 : w5.cell? ⟨w2.heap.size, 4, none⟩ = some (.int .i64 ma) := keep (by go_cell) hb5
  have z5_x : w3.heap.size < w5.heap.size := by (have := hb5.size; (try simp at this); omega)
  have x5_x : w3.heap.size ≤ w5.heap.size := Nat.le_of_lt z5_x
  have d5_x_0 : w5.cell? ⟨w3.heap.size, 0, none⟩ = some (.slice p2 ps.length q2) := keep (by go_cell) hb5
  have d5_x_1 : w5.cell? ⟨w3.heap.size, 1, none⟩ = some (.int .i64 er) := keep (by go_cell) hb5
  have z5_y : w4.heap.size < w5.heap.size := by (have := hb5.size; (try simp at this); omega)
  have x5_y : w4.heap.size ≤ w5.heap.size := Nat.le_of_lt z5_y
  have d5_y_0 : w5.cell? ⟨w4.heap.size, 0, none⟩ = some (.int .i64 mc) := keep (by go_cell) hb5
  have d5_y_1 : w5.cell? ⟨w4.heap.size, 1, none⟩ = some (.int .i64 mn) := keep (by go_cell) hb5
  have d5_y_2 : w5.cell? ⟨w4.heap.size, 2, none⟩ = some (.int .i64 md) := keep (by go_cell) hb5
  have d5_y_3 : w5.cell? ⟨w4.heap.size, 3, none⟩ = some (.int .i64 ml) := keep (by go_cell) hb5
  have d5_y_4 : w5.cell? ⟨w4.heap.size, 4, none⟩ = some (.int .i64 ma) := keep (by go_cell) hb5
  have d5_y_5 : w5.cell? ⟨w4.heap.size, 5, none⟩ = some (.int .i64 me) := keep (by go_cell) hb5
  clear hb5 d4_b_0 d4_b_1 d4_b_2 d4_b_3 d4_b_4 d4_m_0 d4_m_1 d4_m_2 d4_m_3 d4_m_4 d4_x_0 d4_x_1
  go_wp2_with fail
  refine (same_yes ps _ _ _ _ _ Y1.out Y2.out (by omega)).mono ?_
  rintro e w6 ⟨rfl, hb6⟩
  have B6 : Below w.heap.size w w6 := bt (by (repeat' (first | (with_reducible exact Below.refl _ _) | (with_reducible assumption) | (with_reducible refine Below.alloc ?_ ?_ _) | (with_reducible refine Below.drew ?_) | (with_reducible refine below_dn ?_) | (with_reducible refine Below.setCell ?_ ?_ _) | (with_reducible exact Nat.le_refl _) | omega | (simp only [World.size_alloc, World.size_setCell, World.size_drew]; omega) | (simp; omega) | (simp; done)))) hb6
  have s6 : w.heap.size ≤ w6.heap.size := B6.size
  have z6_b : w.heap.size < w6.heap.size := by (have := hb6.size; (try simp at this); omega)
  have x6_b : w.heap.size ≤ w6.heap.size := Nat.le_of_lt z6_b
  have d6_b_0 : w6.cell? ⟨w.heap.size, 0, none⟩ = some (.int .i64 c) := keep (by go_cell) hb6
  have d6_b_1 : w6.cell? ⟨w.heap.size, 1, none⟩ = some (.int .i64 n) := keep (by go_cell) hb6
  have d6_b_2 : w6.cell? ⟨w.heap.size, 2, none⟩ = some (.int .i64 d) := keep (by go_cell) hb6
  have d6_b_3 : w6.cell? ⟨w.heap.size, 3, none⟩ = some (.int .i64 l) := keep (by go_cell) hb6
  have d6_b_4 : w6.cell? ⟨w.heap.size, 4, none⟩ = some (.int .i64 a) := keep (by go_cell) hb6
  have z6_m : w2.heap.size < w6.heap.size := by (have := hb6.size; (try simp at this); omega)
  have x6_m : w2.heap.size ≤ w6.heap.size := Nat.le_of_lt z6_m
  have d6_m_0 : w6.cell? ⟨w2.heap.size, 0, none⟩ = some (.int .i64 mc) := keep (by go_cell) hb6
  have d6_m_1 : w6.cell? ⟨w2.heap.size, 1, none⟩ = some (.int .i64 mn) := keep (by go_cell) hb6
  have d6_m_2 : w6.cell? ⟨w2.heap.size, 2, none⟩ = some (.int .i64 md) := keep (by go_cell) hb6
  have d6_m_3 : w6.cell? ⟨w2.heap.size, 3, none⟩ = some (.int .i64 ml) := keep (by go_cell) hb6
  have d6_m_4 : w6.cell? ⟨w2.heap.size, 4, none⟩ = some (.int .i64 ma) := keep (by go_cell) hb6
  have z6_x : w3.heap.size < w6.heap.size := by (have := hb6.size; (try simp at this); omega)
  have x6_x : w3.heap.size ≤ w6.heap.size := Nat.le_of_lt z6_x
  have d6_x_0 : w6.cell? ⟨w3.heap.size, 0, none⟩ = some (.slice p2 ps.length q2) := keep (by go_cell) hb6
  have d6_x_1 : w6.cell? ⟨w3.heap.size, 1, none⟩ = some (.int .i64 er) := keep (by go_cell) hb6
  have z6_y : w4.heap.size < w6.heap.size := by (have := hb6.size; (try simp at this); omega)
  have x6_y : w4.heap.size ≤ w6.heap.size := Nat.le_of_lt z6_y
  have d6_y_0 : w6.cell? ⟨w4.heap.size, 0, none⟩ = some (.int .i64 mc) := keep (by go_cell) hb6
  have d6_y_1 : w6.cell? ⟨w4.heap.size, 1, none⟩ = some (.int .i64 mn) := keep (by go_cell) hb6
  have d6_y_2 : w6.cell? ⟨w4.heap.size, 2, none⟩ = some (.int .i64 md) := keep (by go_cell) hb6
  have d6_y_3 : w6.cell? ⟨w4.heap.size, 3, none⟩ = some (.int .i64 ml) := keep (by go_cell) hb6
  have d6_y_4 : w6.cell? ⟨w4.heap.size, 4, none⟩ = some (.int .i64 ma) := keep (by go_cell) hb6
  have d6_y_5 : w6.cell? ⟨w4.heap.size, 5, none⟩ = some (.int .i64 me) := keep (by go_cell) hb6
  clear hb6 d5_b_0 d5_b_1 d5_b_2 d5_b_3 d5_b_4 d5_m_0 d5_m_1 d5_m_2 d5_m_3 d5_m_4 d5_x_0 d5_x_1 d5_y_0 d5_y_1 d5_y_2 d5_y_3 d5_y_4 d5_y_5
  go_wp2
  all_goals
    go_ret
    exact ⟨ret_bool (by first | rfl | (apply decide_eq_true; omega) | (simp; omega)), by (repeat' (first | (with_reducible exact Below.refl _ _) | (with_reducible assumption) | (with_reducible refine Below.alloc ?_ ?_ _) | (with_reducible refine Below.drew ?_) | (with_reducible refine below_dn ?_) | (with_reducible refine Below.setCell ?_ ?_ _) | (with_reducible exact Nat.le_refl _) | omega | (simp only [World.size_alloc, World.size_setCell, World.size_drew]; omega) | (simp; omega) | (simp; done)))⟩
end Go.Proofs.Ytigalbgailnicaa
