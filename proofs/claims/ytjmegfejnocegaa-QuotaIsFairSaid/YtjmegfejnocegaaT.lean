/- The iterator over all accounts but one. -/
import Derived.Test.YtjmegfejnocegaaS
import Derived.Test.YtjmegfejnocegaaM4
import Derived.Test.YtjmegfejnocegaaBF
namespace Go.Proofs.Ytjmegfejnocegaa
set_option linter.unusedVariables false
set_option linter.unusedSimpArgs false
open Go.RowKit Go.Shelf
attribute [local go_sem] Oper.semAt_some
abbrev oI (x : Nat × Ac) : Value := .int .i64 (x.1 : Int)
abbrev oA (x : Nat × Ac) : Value := .agg #[.int .i64 x.2.1, .int .i64 x.2.2.1, .int .i64 x.2.2.2]
set_option maxHeartbeats 400000 in
theorem others_mk (a : Option Addr) (n cap : Nat) (p : Int) (w : World) :
    Calls Try.prog 44 #[.slice a n cap, .int .i64 p] w fun e w' => e = .returned (.func (.func 50) #[] #[.pointer (some ⟨w.heap.size, 0, none⟩), .pointer (some ⟨w.heap.size + 1, 0, none⟩)]) ∧ w' = (w.alloc (.cells #[.slice a n cap] 35)).alloc (.cells #[.int .i64 p] 3) := by
  go_enter Try.func44, Try.ntmps44
  go_wp2
  go_ret
  exact ⟨by simp [go_sem], rfl⟩
set_option maxRecDepth 100000 in
set_option maxHeartbeats 1000000 in
theorem others_in (n : Nat) (hn : 1 ≤ n) (Bl Bo cap p : Nat) (a : Option Addr) (l : List Ac) (I : Nat → World → Prop) (hm : l.length ≤ 1000)
    (hI : ∀ k X, I k X → X.cell? ⟨Bl, 0, none⟩ = some (.slice a l.length cap) ∧ X.cell? ⟨Bo, 0, none⟩ = some (.int .i64 (p : Int)) ∧ AcA X a l)
    (hstay : ∀ k X X', I k X → Below X.heap.size X X' → I k X') (hskip : ∀ X, I p X → I (p + 1) X) :
    Iterates2 Fence.wide n Try.prog 50 #[.pointer (some ⟨Bl, 0, none⟩), .pointer (some ⟨Bo, 0, none⟩)] oI oA I (fun x k => x.1 = k ∧ k < l.length ∧ k ≠ p ∧ x.2 = l.getD k (0, 0, 0)) (fun _ k => k + 1) 0 (fun k => k = l.length) := by
  intro lo J hJ hY X hJ0
  have HI := Lib.hid hI; have HS := Lib.hid hstay; have HJ := Lib.hid hJ; have HY := Lib.hid hY; have HK := Lib.hid hskip
  obtain ⟨c0, c1, -⟩ := HI.out _ _ (HJ.out.1 _ _ hJ0)
  have J0 := Lib.hid hJ0
  obtain ⟨N, hN⟩ : ∃ N, l.length = N := ⟨_, rfl⟩
  have HE := Lib.hid hN
  rw [hN] at c0 hm ⊢
  clear hJ hY hI hstay hskip hJ0 hN
  refine callsIn_of_wp Try.func50 rfl trivial ?_ rfl
  simp only [Try.ntmps50, List.size_toArray, List.length_cons, List.length_nil, Nat.reduceAdd, Nat.reduceSub, Array.replicate_succ, Array.replicate_zero, List.push_toArray, List.append_toArray, List.nil_append, List.cons_append]
  gi_wp2
  gi_loopw [4, 5, 8] (fun _ _ i wr => ∃ k : Nat, k ≤ N ∧ i = .int .i64 k ∧ Hid (J k wr)) (fun _ _ i _ => N - (intOf i).toNat)
  case atStart => exact ⟨0, by omega, rfl, J0⟩
  case round =>
    clear J0 c0 c1
    obtain ⟨k, hk, rfl, hJk⟩ := hrel
    by_cases hlt : k < N
    · obtain ⟨-, c1, ha⟩ := HI.out _ _ (HJ.out.1 _ _ hJk.out)
      obtain ⟨b, off, rfl, q0, q1, q2⟩ := AcA.at_ ha (k := k) (by rw [HE.out]; exact hlt)
      obtain ⟨y, hy⟩ : ∃ y, l.getD k (0, 0, 0) = y := ⟨_, rfl⟩
      rw [hy] at q0 q1 q2
      have HY1 := Lib.hid hy
      obtain ⟨y1, y2, y3⟩ := y
      simp only at q0 q1 q2
      have JA := Lib.hid (show J k (wr.alloc (.cells #[.int .i64 y1, .int .i64 y2, .int .i64 y3] 53)) from HJ.out.2 _ _ _ _ hJk.out (HS.out _ _ _ (HJ.out.1 _ _ hJk.out) ((Below.refl _ _).alloc (Nat.le_refl _) _)) (KeepsOthers.alloc _ _))
      have c1' : (wr.alloc (.cells #[.int .i64 y1, .int .i64 y2, .int .i64 y3] 53)).cell? ⟨Bo, 0, none⟩ = some (.int .i64 (p : Int)) := by rw [World.cell?_alloc_past _ _ _ (block_lt_of_cell c1)]; exact c1
      clear hy ha
      by_cases hkp : k = p
      · have d0 : ((k : Int) != (p : Int)) = false := by rw [hkp]; simp
        have J3 := Lib.hid (show J (k + 1) (wr.alloc (.cells #[.int .i64 y1, .int .i64 y2, .int .i64 y3] 53)) by
          have h1 := JA.out
          rw [hkp] at h1 ⊢
          exact HJ.out.2 _ _ _ _ h1 (HK.out _ (HJ.out.1 _ _ h1)) (KeepsOthers.refl _))
        clear hkp
        gi_wp2
        refine ⟨fun f h => (by cases h), ?_⟩
        gi_wp2
        go_roundw
        case rel => exact ⟨k + 1, by omega, by go_num, J3⟩
        case measure => simp [intOf]; omega
      · have d0 : ((k : Int) != (p : Int)) = true := bne_iff_ne.2 (by omega)
        obtain ⟨fn, tmps, assign, body, hy, hR⟩ := HY.out (k, (y1, y2, y3)) k _ ⟨rfl, by rw [HE.out]; exact hlt, hkp, HY1.out.symm⟩ JA.out
        clear hkp
        gi_wp2
        refine hR.mono ?_
        rintro e W3 ⟨rfl, hJ3⟩
        have J3 := Lib.hid hJ3
        clear hJ3
        gi_wp2
        go_roundw
        case rel => exact ⟨k + 1, by omega, by go_num, J3⟩
        case measure => simp [intOf]; omega
    · have hk4 : k = N := by omega
      have J4 := Lib.hid (show J N _ by have := hJk.out; rwa [hk4] at this)
      gi_wp2
      go_end0
      exact ⟨⟨_, rfl⟩, N, rfl, J4.out⟩
end Go.Proofs.Ytjmegfejnocegaa
