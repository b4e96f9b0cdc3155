import Derived.Test.YteblnmhaohbkkaaDoorRBC
import Derived.Test.YteblnmhaohbkkaaDoorRLMs
namespace Go.Proofs.YteblnmhaohbkkaaDoor
set_option linter.unusedVariables false
set_option linter.unusedSimpArgs false
set_option linter.unusedSectionVars false
namespace Le
open Go.RowKit
abbrev AcA := RowsA 3 encG
abbrev OwnA := OwnR 88 3 encG
theorem infoA : (Tryd.prog.info? 88).map (fun i => (i.zero, i.size, i.bytes)) = some (some (.agg #[.int .i64 0, .int .i64 0, .int .i64 0]), 3, 24) := by kernel_rfl
theorem sizeA : (Tryd.prog.info? 88).map (·.size) = some 3 := by kernel_rfl
theorem app_A (ty : TypeId) (w : World) (B : Nat) (v : Value) (l : List Gr) (hown : OwnA w B v l) (a : Option Addr) (cap : Nat) (m : List Gr) (hm : AcA w a m) (hl : l.length ≤ 1000000000) (hml : m.length ≤ 1000000000) (hB : B ≤ w.heap.size) :
    ∃ b n c w', (Builtin.append_ #[22, 22] ty #[v, .slice a m.length cap]).run Tryd.prog w = .ok (.slice b n c) w' ∧ OwnA w' B (.slice b n c) (l ++ m) ∧ Below B w w' :=
  run_app_rows Tryd.underlying22 Tryd.underlying22 infoA rfl (by decide) (by decide) encG_len encG_one w B v l hown a cap m hm hl hml hB
set_option maxRecDepth 100000 in
set_option maxHeartbeats 400000 in
theorem clone_any (a : Option Addr) (cap : Nat) (l : List Gr) (w : World) (hp : AcA w a l) (hm : l.length ≤ 1000000) :
    Calls Tryd.prog 53 #[.slice a l.length cap] w fun e w' => ∃ v, e = .returned v ∧ OwnA w' w.heap.size v l ∧ Below w.heap.size w w' := by
  cases a with
  | none =>
    obtain rfl : l = [] := by
      cases l with
      | nil => rfl
      | cons x l => obtain ⟨b, off, h, -⟩ := hp 0 x rfl; cases h
    have he : ∀ W : World, (binOp .eql 22 (.slice none 0 cap) (.slice none 0 0)).run Tryd.prog W = .ok (.bool true) W := fun _ => rfl
    go_enter Tryd.func53, Tryd.ntmps53
    go_wp2
    go_ret
    exact ⟨_, rfl, OwnR.nil _ _ _ _ _, Below.refl _ _⟩
  | some p =>
    have HP := Lib.hid hp
    obtain ⟨N, hN⟩ : ∃ N, l.length = N := ⟨_, rfl⟩
    have HE := Lib.hid hN
    rw [hN] at hm ⊢
    have E0 : OwnA (w.alloc (.cells #[] 88)) w.heap.size (.slice (some ⟨w.heap.size, 0, none⟩) 0 0) [] := ⟨rfl, .inr ⟨w.heap.size, 0, #[], rfl, Nat.le_refl _, heap_alloc_new w _, Nat.le_refl _, Nat.zero_le _, rfl, rfl⟩⟩
    obtain ⟨b2, n2, c2, w2, hr, ho, hb⟩ := app_A 22 (w.alloc (.cells #[] 88)) w.heap.size _ [] E0 (some p) cap l (hp.mono (by (repeat' (first | (with_reducible exact Below.refl _ _) | (with_reducible assumption) | (with_reducible refine Below.alloc ?_ ?_ _) | (with_reducible refine Below.drew ?_) | (with_reducible refine below_dn ?_) | (with_reducible refine Below.setCell ?_ ?_ _) | (with_reducible exact Nat.le_refl _) | omega | (simp only [World.size_alloc, World.size_setCell, World.size_drew]; omega) | (simp; omega) | (simp; done))))) (by simp) (by omega) (by simp)
    rw [hN] at hr
    have OW := Lib.hid (show OwnA w2 w.heap.size (.slice b2 n2 c2) l from ho)
    have BB := Lib.hid (show Below w.heap.size w w2 from ((Below.refl _ _).alloc (Nat.le_refl _) _).trans hb)
    have he : ∀ W : World, (binOp .eql 22 (.slice (some p) N cap) (.slice none 0 0)).run Tryd.prog W = .ok (.bool false) W := fun _ => rfl
    clear hp hN E0 ho hb
    go_enter Tryd.func53, Tryd.ntmps53
    go_wp2_with (at_builtin; refine wpList_app_run rfl _ _ _ _ rfl _ _ _ w2 rfl rfl hr ?_)
    go_wp2
    go_ret
    exact ⟨_, rfl, OW.out, BB.out⟩
set_option maxRecDepth 100000 in
set_option maxHeartbeats 1000000 in
theorem ins_end (v : Value) (l : List Gr) (x : Gr) (vb B : Nat) (w : World) (hown : OwnA w B v l) (hm : l.length ≤ 1000000) (hB : B ≤ w.heap.size) (hx : Blk w vb 88 (encG x).toArray) :
    Calls Tryd.prog 55 #[v, .int .i64 (l.length : Int), .slice (some ⟨vb, 0, none⟩) 1 1] w fun e w' => ∃ v', e = .returned v' ∧ OwnA w' B v' (insL l l.length x) ∧ Below B w w' := by
  have hsrc : AcA w (some ⟨vb, 0, none⟩) [x] := by
    intro i y hy
    have hi : i = 0 := by have := (List.getElem?_eq_some_iff.1 hy).1; simpa using this
    subst hi
    obtain rfl : x = y := by simpa using hy
    refine ⟨vb, 0, rfl, fun j u hu => ?_⟩
    rw [show 0 + 0 * 3 + j = j by omega, hx.cell j]
    simpa using hu
  obtain ⟨b2, n2, c2, w2, hr, ho, hb⟩ := app_A 22 w B v l hown (some ⟨vb, 0, none⟩) 1 [x] hsrc (by omega) (by simp) hB
  have OW := Lib.hid (show OwnA w2 B (.slice b2 n2 c2) (insL l l.length x) by rw [insL_end]; exact ho)
  have BB := Lib.hid hb
  obtain ⟨a, cap, rfl, hcap, hi⟩ := hown.view encG_len
  have hr' : (Builtin.append_ #[22, 22] 22 #[.slice a l.length cap, .slice (some ⟨vb, 0, none⟩) 1 1]).run Tryd.prog w = .ok (.slice b2 n2 c2) w2 := hr
  have hmx : cap ≤ 9223372036854775807 := by
    rcases hown.2 with ⟨h1, -⟩ | ⟨g, cap', cur, h1, h2, h3, h4, h5, -⟩
    · injection h1 with _ _ h; omega
    · injection h1 with _ _ h; unfold maxLen at h5; omega
  have hnil : a = none → l.length = 0 := fun ha => by
    rcases Nat.eq_zero_or_pos l.length with h | h
    · exact h
    · obtain ⟨b, off, e, -⟩ := hi 0 _ (List.getElem?_eq_getElem h); rw [ha] at e; cases e
  obtain ⟨N, hN⟩ : ∃ N, l.length = N := ⟨_, rfl⟩
  have HE := Lib.hid hN
  rw [hN] at hcap hm hr' hnil ⊢
  clear hown hi ho hb hr hsrc hx
  by_cases hc : cap = N
  · subst hc
    cases a with
    | none =>
      obtain rfl : cap = 0 := hnil rfl
      go_enter Tryd.func55, Tryd.ntmps55
      go_wp2_with (at_builtin; refine wpList_app_run rfl _ _ _ _ rfl _ _ _ w2 rfl rfl hr' ?_)
      all_goals
        go_ret
        exact ⟨.slice b2 n2 c2, rfl, by rw [← HE.out]; exact OW.out, BB.out⟩
    | some p =>
      go_enter Tryd.func55, Tryd.ntmps55
      go_wp2_with (at_builtin; refine wpList_app_run rfl _ _ _ _ rfl _ _ _ w2 rfl rfl hr' ?_)
      all_goals
        go_ret
        exact ⟨.slice b2 n2 c2, rfl, by rw [← HE.out]; exact OW.out, BB.out⟩
  · have hlt : N < cap := by omega
    have hne : ¬ (cap = N) := hc
    cases a with
    | none =>
      obtain rfl : N = 0 := hnil rfl
      go_enter Tryd.func55, Tryd.ntmps55
      go_wp2_with (at_builtin; refine wpList_app_run rfl _ _ _ _ rfl _ _ _ w2 rfl rfl hr' ?_)
      all_goals
        go_ret
        exact ⟨.slice b2 n2 c2, rfl, by rw [← HE.out]; exact OW.out, BB.out⟩
    | some p =>
      go_enter Tryd.func55, Tryd.ntmps55
      go_wp2_with (at_builtin; refine wpList_app_run rfl _ _ _ _ rfl _ _ _ w2 rfl rfl hr' ?_)
      all_goals
        go_ret
        exact ⟨.slice b2 n2 c2, rfl, by rw [← HE.out]; exact OW.out, BB.out⟩
end Le
end Go.Proofs.YteblnmhaohbkkaaDoor
