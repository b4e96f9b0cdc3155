import Derived.Test.YtcgdhankllphgaaRBC
import Derived.Test.YtcgdhankllphgaaRM
import Derived.Test.YtcgdhankllphgaaRK1
namespace Go.Proofs.Ytcgdhankllphgaa
set_option linter.unusedVariables false
set_option linter.unusedSimpArgs false
set_option linter.unusedSectionVars false
section
namespace Ro
open Go.RowKit
abbrev AcA := RowsA 4 encR
abbrev OwnA := OwnR 72 4 encR
theorem infoA : (Try.prog.info? 72).map (fun i => (i.zero, i.size, i.bytes)) = some (some (.agg #[.int .i64 0, .int .i64 0, .int .i64 0, .int .i64 0]), 4, 32) := by kernel_rfl
theorem sizeA : (Try.prog.info? 72).map (·.size) = some 4 := by kernel_rfl
theorem app_A (ty : TypeId) (w : World) (B : Nat) (v : Value) (l : List Rw) (hown : OwnA w B v l) (a : Option Addr) (cap : Nat) (m : List Rw) (hm : AcA w a m) (hl : l.length ≤ 1000000000) (hml : m.length ≤ 1000000000) (hB : B ≤ w.heap.size) :
    ∃ b n c w', (Builtin.append_ #[22, 22] ty #[v, .slice a m.length cap]).run Try.prog w = .ok (.slice b n c) w' ∧ OwnA w' B (.slice b n c) (l ++ m) ∧ Below B w w' :=
  run_app_rows Try.underlying22 Try.underlying22 infoA rfl (by decide) (by decide) encR_len encR_one w B v l hown a cap m hm hl hml hB
set_option maxRecDepth 100000 in
set_option maxHeartbeats 400000 in
theorem clone_any (a : Option Addr) (cap : Nat) (l : List Rw) (w : World) (hp : AcA w a l) (hm : l.length ≤ 1000000) :
    Calls Try.prog 47 #[.slice a l.length cap] w fun e w' => ∃ v, e = .returned v ∧ OwnA w' w.heap.size v l ∧ Below w.heap.size w w' := by
  cases a with
  | none =>
    obtain rfl : l = [] := by
      cases l with
      | nil => rfl
      | cons x l => obtain ⟨b, off, h, -⟩ := hp 0 x rfl; cases h
    have he : ∀ W : World, (binOp .eql 22 (.slice none 0 cap) (.slice none 0 0)).run Try.prog W = .ok (.bool true) W := fun _ => rfl
    go_enter Try.func47, Try.ntmps47
    go_wp2
    go_ret
    exact ⟨_, rfl, OwnR.nil _ _ _ _ _, Below.refl _ _⟩
  | some p =>
    have HP := Lib.hid hp
    obtain ⟨N, hN⟩ : ∃ N, l.length = N := ⟨_, rfl⟩
    have HE := Lib.hid hN
    rw [hN] at hm ⊢
    have E0 : OwnA (w.alloc (.cells #[] 72)) w.heap.size (.slice (some ⟨w.heap.size, 0, none⟩) 0 0) [] := ⟨rfl, .inr ⟨w.heap.size, 0, #[], rfl, Nat.le_refl _, heap_alloc_new w _, Nat.le_refl _, Nat.zero_le _, rfl, rfl⟩⟩
    obtain ⟨b2, n2, c2, w2, hr, ho, hb⟩ := app_A 22 (w.alloc (.cells #[] 72)) w.heap.size _ [] E0 (some p) cap l (hp.mono (by (repeat' (first | (with_reducible exact Below.refl _ _) | (with_reducible assumption) | (with_reducible refine Below.alloc ?_ ?_ _) | (with_reducible refine Below.drew ?_) | (with_reducible refine below_dn ?_) | (with_reducible refine Below.setCell ?_ ?_ _) | (with_reducible exact Nat.le_refl _) | omega | (simp only [World.size_alloc, World.size_setCell, World.size_drew]; omega) | (simp; omega) | (simp; done))))) (by simp) (by omega) (by simp)
    rw [hN] at hr
    have OW := Lib.hid (show OwnA w2 w.heap.size (.slice b2 n2 c2) l from ho)
    have BB := Lib.hid (show Below w.heap.size w w2 from ((Below.refl _ _).alloc (Nat.le_refl _) _).trans hb)
    have he : ∀ W : World, (binOp .eql 22 (.slice (some p) N cap) (.slice none 0 0)).run Try.prog W = .ok (.bool false) W := fun _ => rfl
    clear hp hN E0 ho hb
    go_enter Try.func47, Try.ntmps47
    go_wp2_with (at_builtin; refine wpList_app_run rfl _ _ _ _ rfl _ _ _ w2 rfl rfl hr ?_)
    go_wp2
    go_ret
    exact ⟨_, rfl, OW.out, BB.out⟩
set_option maxRecDepth 100000 in
set_option maxHeartbeats 1000000 in
theorem ins_end (v : Value) (l : List Rw) (x : Rw) (vb B : Nat) (w : World) (hown : OwnA w B v l) (hm : l.length ≤ 1000000) (hB : B ≤ w.heap.size) (hx : Blk w vb 72 (encR x).toArray) :
    Calls Try.prog 48 #[v, .int .i64 (l.length : Int), .slice (some ⟨vb, 0, none⟩) 1 1] w fun e w' => ∃ v', e = .returned v' ∧ OwnA w' B v' (insL l l.length x) ∧ Below B w w' := by
  have hsrc : AcA w (some ⟨vb, 0, none⟩) [x] := by
    intro i y hy
    have hi : i = 0 := by have := (List.getElem?_eq_some_iff.1 hy).1; simpa using this
    subst hi
    obtain rfl : x = y := by simpa using hy
    refine ⟨vb, 0, rfl, fun j u hu => ?_⟩
    rw [show 0 + 0 * 4 + j = j by omega, hx.cell j]
    simpa using hu
  obtain ⟨b2, n2, c2, w2, hr, ho, hb⟩ := app_A 22 w B v l hown (some ⟨vb, 0, none⟩) 1 [x] hsrc (by omega) (by simp) hB
  have OW := Lib.hid (show OwnA w2 B (.slice b2 n2 c2) (insL l l.length x) by rw [insL_end]; exact ho)
  have BB := Lib.hid hb
  obtain ⟨a, cap, rfl, hcap, hi⟩ := hown.view encR_len
  have hr' : (Builtin.append_ #[22, 22] 22 #[.slice a l.length cap, .slice (some ⟨vb, 0, none⟩) 1 1]).run Try.prog w = .ok (.slice b2 n2 c2) w2 := hr
  have hmx : cap ≤ 9223372036854775807 := by
    rcases hown.2 with ⟨h1, -⟩ | ⟨g, cap', cur, h1, h2, h3, h4, h5, -⟩
    · injection h1 with _ _ h; omega
    · injection h1 with _ _ h; unfold maxLen at h5; omega
  have hnil : a = none → l.length = 0 := fun ha => by
    rcases Nat.eq_zero_or_pos l.length with h | h
    · exact h
    · obtain ⟨b, off, e, -⟩ := hi 0 _ (List.getElem?_eq_getElem h); rw [ha] at e; cases e
  obtain ⟨N, hN⟩ : ∃ N, l.length = N := ⟨_, rfl⟩
  have HE := Lib.hid hN
  rw [hN] at hcap hm hr' hnil ⊢
  clear hown hi ho hb hr hsrc hx
  by_cases hc : cap = N
  · subst hc
    cases a with
    | none =>
      obtain rfl : cap = 0 := hnil rfl
      go_enter Try.func48, Try.ntmps48
      go_wp2_with (at_builtin; refine wpList_app_run rfl _ _ _ _ rfl _ _ _ w2 rfl rfl hr' ?_)
      all_goals
        go_ret
        exact ⟨.slice b2 n2 c2, rfl, by rw [← HE.out]; exact OW.out, BB.out⟩
    | some p =>
      go_enter Try.func48, Try.ntmps48
      go_wp2_with (at_builtin; refine wpList_app_run rfl _ _ _ _ rfl _ _ _ w2 rfl rfl hr' ?_)
      all_goals
        go_ret
        exact ⟨.slice b2 n2 c2, rfl, by rw [← HE.out]; exact OW.out, BB.out⟩
  · have hlt : N < cap := by omega
    have hne : ¬ (cap = N) := hc
    cases a with
    | none =>
      obtain rfl : N = 0 := hnil rfl
      go_enter Try.func48, Try.ntmps48
      go_wp2_with (at_builtin; refine wpList_app_run rfl _ _ _ _ rfl _ _ _ w2 rfl rfl hr' ?_)
      all_goals
        go_ret
        exact ⟨.slice b2 n2 c2, rfl, by rw [← HE.out]; exact OW.out, BB.out⟩
    | some p =>
      go_enter Try.func48, Try.ntmps48
      go_wp2_with (at_builtin; refine wpList_app_run rfl _ _ _ _ rfl _ _ _ w2 rfl rfl hr' ?_)
      all_goals
        go_ret
        exact ⟨.slice b2 n2 c2, rfl, by rw [← HE.out]; exact OW.out, BB.out⟩
end Ro
end
section
namespace Ro
open Go.RowKit
set_option maxRecDepth 100000 in
set_option maxHeartbeats 1000000 in
theorem search_any (a : Option Addr) (cap : Nat) (l : List Rw) (y : Rw) (w : World) (hp : RwA w a l) (hm : l.length ≤ 1000000) :
    Calls Try.prog 80 #[.slice a l.length cap, .agg (encR y).toArray, .func (.func 60) #[] #[]] w fun e w' =>
      (∃ (i : Nat) (f : Bool), e = .returned (.tuple #[.int .i64 i, .bool f]) ∧ i ≤ l.length ∧ (f = true → i < l.length) ∧ (Mono (cR y.1 y.2.1) l → i = posC (cR y.1 y.2.1) l ∧ f = hasC (cR y.1 y.2.1) l)) ∧ Below w.heap.size w w' := by
  have HP := Lib.hid hp
  obtain ⟨N, hN⟩ : ∃ N, l.length = N := ⟨_, rfl⟩
  have HE := Lib.hid hN
  have CC := Lib.hid (fun (x : Rw) (W : World) => cmpR_any x y W)
  obtain ⟨c, hc⟩ : ∃ c : Rw → Int, cR y.1 y.2.1 = c := ⟨_, rfl⟩
  have CE := Lib.hid (fun x : Rw => show cR y.1 y.2.1 x = c x by rw [← hc])
  rw [hN] at hm ⊢
  rw [hc]
  have PIS := Lib.hid (show ∀ i, i ≤ l.length → (∀ j, j < i → c (l.getD j r0) < 0) → (i < l.length → 0 ≤ c (l.getD i r0)) → posC c l = i from fun i h0 h1 h2 => posC_is c l i h0 h1 (fun h => by have := h2 h; omega))
  obtain ⟨y1, y2, y3, y4⟩ := y
  simp only [encR] at CC ⊢
  clear hp hN hc
  go_enter Try.func80, Try.ntmps80
  go_wp2
  go_loopw [9, 10, 11] (fun u9 u10 _ wr => ∃ i j : Nat, u9 = .int .i64 i ∧ u10 = .int .i64 j ∧ i ≤ j ∧ j ≤ N ∧ Hid (Mono c l → (∀ k, k < i → c (l.getD k r0) < 0) ∧ (j < l.length → 0 ≤ c (l.getD j r0))) ∧ Hid (Blk wr w.heap.size 72 #[.int .i64 y1, .int .i64 y2, .int .i64 y3, .int .i64 y4]) ∧ Hid (Below w.heap.size w wr)) (fun u9 u10 _ _ => (intOf u10 - intOf u9).toNat)
  case atStart => exact ⟨0, N, rfl, rfl, by omega, by omega, Lib.hid (fun _ => ⟨fun k hk => absurd hk (by omega), fun h => absurd h (by rw [HE.out]; omega)⟩), Lib.hid (Blk.new' w _ _ _ rfl rfl), Lib.hid (by (repeat' (first | (with_reducible exact Below.refl _ _) | (with_reducible assumption) | (with_reducible refine Below.alloc ?_ ?_ _) | (with_reducible refine Below.drew ?_) | (with_reducible refine below_dn ?_) | (with_reducible refine Below.setCell ?_ ?_ _) | (with_reducible exact Nat.le_refl _) | omega | (simp only [World.size_alloc, World.size_setCell, World.size_drew]; omega) | (simp; omega) | (simp; done))))⟩
  case round =>
    obtain ⟨i, j, rfl, rfl, hij, hj, hs, KB, hbe⟩ := hrel
    obtain ⟨d0, d1, d2, d3⟩ := (show wr.cell? ⟨w.heap.size, 0, none⟩ = some (.int .i64 y1) ∧ wr.cell? ⟨w.heap.size, 1, none⟩ = some (.int .i64 y2) ∧ wr.cell? ⟨w.heap.size, 2, none⟩ = some (.int .i64 y3) ∧ wr.cell? ⟨w.heap.size, 3, none⟩ = some (.int .i64 y4) from ⟨KB.out.cell 0, KB.out.cell 1, KB.out.cell 2, KB.out.cell 3⟩)
    by_cases hlt : i < j
    · have m1 : i ≤ (i + j) / 2 := by omega
      have m2 : (i + j) / 2 < j := by omega
      obtain ⟨h, hh⟩ : ∃ h, (i + j) / 2 = h := ⟨_, rfl⟩
      rw [hh] at m1 m2
      have e1 : ((i : Int) + (j : Int)) / 2 = (h : Int) := by omega
      obtain ⟨b, off, rfl, q0, q1, q2, q3⟩ := RwA.at_ (HP.out.mono hbe.out) (k := h) (by rw [HE.out]; omega)
      have LT := Lib.hid (show c (l.getD h r0) < 0 → Mono c l → (∀ k, k < h + 1 → c (l.getD k r0) < 0) from fun h1 mo k hk => mo k h (by omega) (by rw [HE.out]; omega) h1)
      obtain ⟨x, hx⟩ : ∃ y, l.getD h r0 = y := ⟨_, rfl⟩
      rw [hx] at q0 q1 q2 q3 LT
      have HX := Lib.hid hx
      have C := Lib.hid (fun W => CC.out x W)
      have CE2 := Lib.hid (CE.out x)
      obtain ⟨r, hr⟩ : ∃ r, c x = r := ⟨_, rfl⟩
      rw [CE2.out, hr] at C
      rw [hr] at LT
      have HR := Lib.hid hr
      obtain ⟨x1, x2, x3, x4⟩ := x
      simp only [encR] at q0 q1 q2 q3 C
      clear hx hh hr CE2
      have h0 : (0 : Int) ≤ (h : Int) := by omega
      have hN2 : (h : Int) < (N : Int) := by omega
      by_cases hc : r < 0
      · have t1 : decide (r < 0) = true := decide_eq_true hc
        have HS := Lib.hid (LT.out hc)
        clear hc
        go_wp2_with fail
        go_region_held3 (fun X => (X.cell? ⟨w.heap.size, 0, none⟩ = some (.int .i64 y1) ∧ X.cell? ⟨w.heap.size, 1, none⟩ = some (.int .i64 y2) ∧ X.cell? ⟨w.heap.size, 2, none⟩ = some (.int .i64 y3) ∧ X.cell? ⟨w.heap.size, 3, none⟩ = some (.int .i64 y4)) ∧ X.cell? ⟨b, off + h * 4, none⟩ = some (.int .i64 x1) ∧ X.cell? ⟨b, off + h * 4 + 1, none⟩ = some (.int .i64 x2) ∧ X.cell? ⟨b, off + h * 4 + 2, none⟩ = some (.int .i64 x3) ∧ X.cell? ⟨b, off + h * 4 + 3, none⟩ = some (.int .i64 x4)) (first | exact ⟨⟨d0, d1, d2, d3⟩, q0, q1, q2, q3⟩ | exact ⟨four KB.out, keep (W := wr.drew) q0 hb, keep (W := wr.drew) q1 hb, keep (W := wr.drew) q2 hb, keep (W := wr.drew) q3 hb⟩) (first | (go_at_call 60; with_reducible refine (C.out _).mono ?_; rintro e w1 ⟨rfl, hb⟩; replace KB := Lib.hid (KB.out.drew.below hb KB.out.drew.lt); have B1 := Lib.hid (bt (Below.drew hbe.out) hb)))
        go_wp2
        go_roundw
        case rel => exact ⟨h + 1, j, by go_num, rfl, by omega, by omega, Lib.hid (fun mo => ⟨HS.out mo, (hs.out mo).2⟩), KB, B1⟩
        case measure => simp [intOf]; omega
      · have t1 : decide (r < 0) = false := decide_eq_false hc
        have HS := Lib.hid (show 0 ≤ c (l.getD h r0) by rw [HX.out, HR.out]; omega)
        clear hc
        go_wp2_with fail
        go_region_held3 (fun X => (X.cell? ⟨w.heap.size, 0, none⟩ = some (.int .i64 y1) ∧ X.cell? ⟨w.heap.size, 1, none⟩ = some (.int .i64 y2) ∧ X.cell? ⟨w.heap.size, 2, none⟩ = some (.int .i64 y3) ∧ X.cell? ⟨w.heap.size, 3, none⟩ = some (.int .i64 y4)) ∧ X.cell? ⟨b, off + h * 4, none⟩ = some (.int .i64 x1) ∧ X.cell? ⟨b, off + h * 4 + 1, none⟩ = some (.int .i64 x2) ∧ X.cell? ⟨b, off + h * 4 + 2, none⟩ = some (.int .i64 x3) ∧ X.cell? ⟨b, off + h * 4 + 3, none⟩ = some (.int .i64 x4)) (first | exact ⟨⟨d0, d1, d2, d3⟩, q0, q1, q2, q3⟩ | exact ⟨four KB.out, keep (W := wr.drew) q0 hb, keep (W := wr.drew) q1 hb, keep (W := wr.drew) q2 hb, keep (W := wr.drew) q3 hb⟩) (first | (go_at_call 60; with_reducible refine (C.out _).mono ?_; rintro e w1 ⟨rfl, hb⟩; replace KB := Lib.hid (KB.out.drew.below hb KB.out.drew.lt); have B1 := Lib.hid (bt (Below.drew hbe.out) hb)))
        go_wp2
        go_roundw
        case rel => exact ⟨i, h, rfl, rfl, by omega, by omega, Lib.hid (fun mo => ⟨(hs.out mo).1, fun _ => HS.out⟩), KB, B1⟩
        case measure => simp [intOf]; omega
    · obtain rfl : i = j := by omega
      by_cases hlast : i < N
      · have t0 : decide ((i : Int) < (N : Int)) = true := decide_eq_true (by omega)
        obtain ⟨b, off, rfl, q0, q1, q2, q3⟩ := RwA.at_ (HP.out.mono hbe.out) (k := i) (by rw [HE.out]; omega)
        obtain ⟨x, hx⟩ : ∃ y, l.getD i r0 = y := ⟨_, rfl⟩
        rw [hx] at q0 q1 q2 q3
        have HX := Lib.hid hx
        have C := Lib.hid (fun W => CC.out x W)
        have CE2 := Lib.hid (CE.out x)
        obtain ⟨r, hr⟩ : ∃ r, c x = r := ⟨_, rfl⟩
        rw [CE2.out, hr] at C
        have HR := Lib.hid hr
        obtain ⟨x1, x2, x3, x4⟩ := x
        simp only [encR] at q0 q1 q2 q3 C
        have FIN := Lib.hid (show Mono c l → i = posC c l ∧ decide (r = 0) = hasC c l from fun mo => by
          have h1 := PIS.out i (by rw [HE.out]; omega) (hs.out mo).1 (hs.out mo).2
          refine ⟨h1.symm, ?_⟩
          unfold hasC
          rw [h1, HX.out, HR.out]
          apply decide_eq_decide.mpr
          exact ⟨fun h => ⟨by rw [HE.out]; exact hlast, h⟩, fun h => h.2⟩)
        clear hx hr CE2
        have h0 : (0 : Int) ≤ (i : Int) := by omega
        have hN2 : (i : Int) < (N : Int) := by omega
        by_cases heq : r = 0
        · have t1 : (r == 0) = true := by simp [heq]
          have t2 : decide (r = 0) = true := decide_eq_true heq
          have H2 := Lib.hid t2
          rw [t2] at FIN
          clear heq
          go_wp2_with fail
          go_region_held3 (fun X => (X.cell? ⟨w.heap.size, 0, none⟩ = some (.int .i64 y1) ∧ X.cell? ⟨w.heap.size, 1, none⟩ = some (.int .i64 y2) ∧ X.cell? ⟨w.heap.size, 2, none⟩ = some (.int .i64 y3) ∧ X.cell? ⟨w.heap.size, 3, none⟩ = some (.int .i64 y4)) ∧ X.cell? ⟨b, off + i * 4, none⟩ = some (.int .i64 x1) ∧ X.cell? ⟨b, off + i * 4 + 1, none⟩ = some (.int .i64 x2) ∧ X.cell? ⟨b, off + i * 4 + 2, none⟩ = some (.int .i64 x3) ∧ X.cell? ⟨b, off + i * 4 + 3, none⟩ = some (.int .i64 x4)) (first | exact ⟨⟨d0, d1, d2, d3⟩, q0, q1, q2, q3⟩ | exact ⟨four KB.out, keep (W := wr.drew) q0 hb, keep (W := wr.drew) q1 hb, keep (W := wr.drew) q2 hb, keep (W := wr.drew) q3 hb⟩) (first | (go_at_call 60; with_reducible refine (C.out _).mono ?_; rintro e w1 ⟨rfl, hb⟩; replace KB := Lib.hid (KB.out.drew.below hb KB.out.drew.lt); have B1 := Lib.hid (bt (Below.drew hbe.out) hb)))
          go_wp2
          refine bodyPost_ret (by simp [results, Try.results80, go_sem]; try rfl) rfl ?_
          exact ⟨⟨i, true, rfl, by omega, fun _ => hlast, fun mo => FIN.out mo⟩, B1.out⟩
        · have t1 : (r == 0) = false := by simp [heq]
          have t2 : decide (r = 0) = false := decide_eq_false heq
          rw [t2] at FIN
          clear heq
          go_wp2_with fail
          go_region_held3 (fun X => (X.cell? ⟨w.heap.size, 0, none⟩ = some (.int .i64 y1) ∧ X.cell? ⟨w.heap.size, 1, none⟩ = some (.int .i64 y2) ∧ X.cell? ⟨w.heap.size, 2, none⟩ = some (.int .i64 y3) ∧ X.cell? ⟨w.heap.size, 3, none⟩ = some (.int .i64 y4)) ∧ X.cell? ⟨b, off + i * 4, none⟩ = some (.int .i64 x1) ∧ X.cell? ⟨b, off + i * 4 + 1, none⟩ = some (.int .i64 x2) ∧ X.cell? ⟨b, off + i * 4 + 2, none⟩ = some (.int .i64 x3) ∧ X.cell? ⟨b, off + i * 4 + 3, none⟩ = some (.int .i64 x4)) (first | exact ⟨⟨d0, d1, d2, d3⟩, q0, q1, q2, q3⟩ | exact ⟨four KB.out, keep (W := wr.drew) q0 hb, keep (W := wr.drew) q1 hb, keep (W := wr.drew) q2 hb, keep (W := wr.drew) q3 hb⟩) (first | (go_at_call 60; with_reducible refine (C.out _).mono ?_; rintro e w1 ⟨rfl, hb⟩; replace KB := Lib.hid (KB.out.drew.below hb KB.out.drew.lt); have B1 := Lib.hid (bt (Below.drew hbe.out) hb)))
          go_wp2
          refine bodyPost_ret (by simp [results, Try.results80, go_sem]; try rfl) rfl ?_
          exact ⟨⟨i, false, rfl, by omega, (fun h => by cases h), fun mo => FIN.out mo⟩, B1.out⟩
      · have t0 : decide ((i : Int) < (N : Int)) = false := decide_eq_false (by omega)
        have FIN := Lib.hid (show Mono c l → i = posC c l ∧ false = hasC c l from fun mo => by
          have h1 := PIS.out i (by rw [HE.out]; exact hj) (hs.out mo).1 (hs.out mo).2
          refine ⟨h1.symm, ?_⟩
          unfold hasC
          rw [h1]
          symm
          apply decide_eq_false
          rintro ⟨h, -⟩
          rw [HE.out] at h
          omega)
        clear hs
        go_wp2_with fail
        go_quiet (fail)
        go_wp2
        refine bodyPost_ret (by simp [results, Try.results80, go_sem]; try rfl) rfl ?_
        exact ⟨⟨i, false, rfl, by omega, (fun h => by cases h), fun mo => FIN.out mo⟩, below_dn hbe.out⟩
end Ro
end
end Go.Proofs.Ytcgdhankllphgaa
