/- Contracts: slices.Clone at purges and digests. -/
import Derived.Test.YtcdcnklfcmoiiaaDoorQEP
import Derived.Test.YtcdcnklfcmoiiaaDoorQBC
namespace Go.Proofs.YtcdcnklfcmoiiaaDoor
set_option linter.unusedVariables false
set_option linter.unusedSimpArgs false
open Go.RowKit
theorem encPu_one (a : Pu) : ∀ v ∈ encPu a, v.oneCell' = true := by
  intro v hv
  simp only [encPu, List.mem_cons, List.not_mem_nil, or_false] at hv
  rcases hv with rfl | rfl | rfl <;> rfl
theorem encDg_one (a : Dg) : ∀ v ∈ encDg a, v.oneCell' = true := by
  intro v hv
  obtain ⟨x, -, rfl⟩ := List.mem_map.1 hv
  rfl
namespace Cp
abbrev AcA := RowsA 3 encPu
abbrev OwnA := OwnR 99 3 encPu
theorem infoA : (Tryd.prog.info? 99).map (fun i => (i.zero, i.size, i.bytes)) = some (some (.agg #[.int .i64 0, .string ⟨#[]⟩, .bool false]), 3, 32) := by kernel_rfl
theorem sizeA : (Tryd.prog.info? 99).map (·.size) = some 3 := by kernel_rfl
theorem app_A (ty : TypeId) (w : World) (B : Nat) (v : Value) (l : List Pu) (hown : OwnA w B v l) (a : Option Addr) (cap : Nat) (m : List Pu) (hm : AcA w a m) (hl : l.length ≤ 1000000000) (hml : m.length ≤ 1000000000) (hB : B ≤ w.heap.size) :
    ∃ b n c w', (Builtin.append_ #[59, 59] ty #[v, .slice a m.length cap]).run Tryd.prog w = .ok (.slice b n c) w' ∧ OwnA w' B (.slice b n c) (l ++ m) ∧ Below B w w' :=
  run_app_rows Tryd.underlying59 Tryd.underlying59 infoA rfl (by decide) (by decide) encPu_len encPu_one w B v l hown a cap m hm hl hml hB
set_option maxRecDepth 100000 in
set_option maxHeartbeats 400000 in
theorem clone_any (a : Option Addr) (cap : Nat) (l : List Pu) (w : World) (hp : AcA w a l) (hm : l.length ≤ 1000000) :
    Calls Tryd.prog 73 #[.slice a l.length cap] w fun e w' => ∃ v, e = .returned v ∧ OwnA w' w.heap.size v l ∧ Below w.heap.size w w' := by
  cases a with
  | none =>
    obtain rfl : l = [] := by
      cases l with
      | nil => rfl
      | cons x l => obtain ⟨b, off, h, -⟩ := hp 0 x rfl; cases h
    have he : ∀ W : World, (binOp .eql 59 (.slice none 0 cap) (.slice none 0 0)).run Tryd.prog W = .ok (.bool true) W := fun _ => rfl
    go_enter Tryd.func73, Tryd.ntmps73
    go_wp2
    go_ret
    exact ⟨_, rfl, OwnR.nil _ _ _ _ _, Below.refl _ _⟩
  | some p =>
    have HP := Lib.hid hp
    obtain ⟨N, hN⟩ : ∃ N, l.length = N := ⟨_, rfl⟩
    have HE := Lib.hid hN
    rw [hN] at hm ⊢
    have E0 : OwnA (w.alloc (.cells #[] 99)) w.heap.size (.slice (some ⟨w.heap.size, 0, none⟩) 0 0) [] := ⟨rfl, .inr ⟨w.heap.size, 0, #[], rfl, Nat.le_refl _, heap_alloc_new w _, Nat.le_refl _, Nat.zero_le _, rfl, rfl⟩⟩
    obtain ⟨b2, n2, c2, w2, hr, ho, hb⟩ := app_A 59 (w.alloc (.cells #[] 99)) w.heap.size _ [] E0 (some p) cap l (hp.mono (by (repeat' (first | (with_reducible exact Below.refl _ _) | (with_reducible assumption) | (with_reducible refine Below.alloc ?_ ?_ _) | (with_reducible refine Below.drew ?_) | (with_reducible refine below_dn ?_) | (with_reducible refine Below.setCell ?_ ?_ _) | (with_reducible exact Nat.le_refl _) | omega | (simp only [World.size_alloc, World.size_setCell, World.size_drew]; omega) | (simp; omega) | (simp; done))))) (by simp) (by omega) (by simp)
    rw [hN] at hr
    have OW := Lib.hid (show OwnA w2 w.heap.size (.slice b2 n2 c2) l from ho)
    have BB := Lib.hid (show Below w.heap.size w w2 from ((Below.refl _ _).alloc (Nat.le_refl _) _).trans hb)
    have he : ∀ W : World, (binOp .eql 59 (.slice (some p) N cap) (.slice none 0 0)).run Tryd.prog W = .ok (.bool false) W := fun _ => rfl
    clear hp hN E0 ho hb
    go_enter Tryd.func73, Tryd.ntmps73
    go_wp2_with (at_builtin; refine wpList_app_run rfl _ _ _ _ rfl _ _ _ w2 rfl rfl hr ?_)
    go_wp2
    go_ret
    exact ⟨_, rfl, OW.out, BB.out⟩
end Cp
namespace Cd
abbrev AcA := RowsA 16 encDg
abbrev OwnA := OwnR 56 16 encDg
theorem infoA : (Tryd.prog.info? 56).map (fun i => (i.zero, i.size, i.bytes)) = some (some (.agg #[.int .u8 0, .int .u8 0, .int .u8 0, .int .u8 0, .int .u8 0, .int .u8 0, .int .u8 0, .int .u8 0, .int .u8 0, .int .u8 0, .int .u8 0, .int .u8 0, .int .u8 0, .int .u8 0, .int .u8 0, .int .u8 0]), 16, 16) := by kernel_rfl
theorem sizeA : (Tryd.prog.info? 56).map (·.size) = some 16 := by kernel_rfl
theorem app_A (ty : TypeId) (w : World) (B : Nat) (v : Value) (l : List Dg) (hown : OwnA w B v l) (a : Option Addr) (cap : Nat) (m : List Dg) (hm : AcA w a m) (hl : l.length ≤ 1000000000) (hml : m.length ≤ 1000000000) (hB : B ≤ w.heap.size) :
    ∃ b n c w', (Builtin.append_ #[60, 60] ty #[v, .slice a m.length cap]).run Tryd.prog w = .ok (.slice b n c) w' ∧ OwnA w' B (.slice b n c) (l ++ m) ∧ Below B w w' :=
  run_app_rows Tryd.underlying60 Tryd.underlying60 infoA rfl (by decide) (by decide) encDg_len encDg_one w B v l hown a cap m hm hl hml hB
set_option maxRecDepth 100000 in
set_option maxHeartbeats 400000 in
theorem clone_any (a : Option Addr) (cap : Nat) (l : List Dg) (w : World) (hp : AcA w a l) (hm : l.length ≤ 1000000) :
    Calls Tryd.prog 74 #[.slice a l.length cap] w fun e w' => ∃ v, e = .returned v ∧ OwnA w' w.heap.size v l ∧ Below w.heap.size w w' := by
  cases a with
  | none =>
    obtain rfl : l = [] := by
      cases l with
      | nil => rfl
      | cons x l => obtain ⟨b, off, h, -⟩ := hp 0 x rfl; cases h
    have he : ∀ W : World, (binOp .eql 60 (.slice none 0 cap) (.slice none 0 0)).run Tryd.prog W = .ok (.bool true) W := fun _ => rfl
    go_enter Tryd.func74, Tryd.ntmps74
    go_wp2
    go_ret
    exact ⟨_, rfl, OwnR.nil _ _ _ _ _, Below.refl _ _⟩
  | some p =>
    have HP := Lib.hid hp
    obtain ⟨N, hN⟩ : ∃ N, l.length = N := ⟨_, rfl⟩
    have HE := Lib.hid hN
    rw [hN] at hm ⊢
    have E0 : OwnA (w.alloc (.cells #[] 56)) w.heap.size (.slice (some ⟨w.heap.size, 0, none⟩) 0 0) [] := ⟨rfl, .inr ⟨w.heap.size, 0, #[], rfl, Nat.le_refl _, heap_alloc_new w _, Nat.le_refl _, Nat.zero_le _, rfl, rfl⟩⟩
    obtain ⟨b2, n2, c2, w2, hr, ho, hb⟩ := app_A 60 (w.alloc (.cells #[] 56)) w.heap.size _ [] E0 (some p) cap l (hp.mono (by (repeat' (first | (with_reducible exact Below.refl _ _) | (with_reducible assumption) | (with_reducible refine Below.alloc ?_ ?_ _) | (with_reducible refine Below.drew ?_) | (with_reducible refine below_dn ?_) | (with_reducible refine Below.setCell ?_ ?_ _) | (with_reducible exact Nat.le_refl _) | omega | (simp only [World.size_alloc, World.size_setCell, World.size_drew]; omega) | (simp; omega) | (simp; done))))) (by simp) (by omega) (by simp)
    rw [hN] at hr
    have OW := Lib.hid (show OwnA w2 w.heap.size (.slice b2 n2 c2) l from ho)
    have BB := Lib.hid (show Below w.heap.size w w2 from ((Below.refl _ _).alloc (Nat.le_refl _) _).trans hb)
    have he : ∀ W : World, (binOp .eql 60 (.slice (some p) N cap) (.slice none 0 0)).run Tryd.prog W = .ok (.bool false) W := fun _ => rfl
    clear hp hN E0 ho hb
    go_enter Tryd.func74, Tryd.ntmps74
    go_wp2_with (at_builtin; refine wpList_app_run rfl _ _ _ _ rfl _ _ _ w2 rfl rfl hr ?_)
    go_wp2
    go_ret
    exact ⟨_, rfl, OW.out, BB.out⟩
end Cd
end Go.Proofs.YtcdcnklfcmoiiaaDoor
