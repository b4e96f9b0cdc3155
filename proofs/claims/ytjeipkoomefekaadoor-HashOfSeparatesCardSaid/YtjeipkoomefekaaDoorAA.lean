/- Contracts of the reference: Few, Joined; strings in a slice. -/
import Derived.Test.YtjeipkoomefekaaDoorX
namespace Go.Proofs.YtjeipkoomefekaaDoor
set_option linter.unusedVariables false
set_option linter.unusedSimpArgs false
open Go.RowKit
def StrsA (W : World) (a : Option Addr) (ss : List ByteArray) : Prop :=
  ∀ k, k < ss.length → ∃ b off, a = some ⟨b, off, none⟩ ∧ W.cell? ⟨b, off + k, none⟩ = some (.string (ss.getD k ByteArray.empty))
theorem StrsA.mono {W W' : World} {a : Option Addr} {ss : List ByteArray} (h : StrsA W a ss) (hb : Below W.heap.size W W') : StrsA W' a ss := by
  intro k hk
  obtain ⟨b, off, e, h1⟩ := h k hk
  exact ⟨b, off, e, keep h1 hb⟩
theorem StrsA.take {W : World} {a : Option Addr} {ss : List ByteArray} (h : StrsA W a ss) (n : Nat) : StrsA W a (ss.take n) := by
  intro k hk
  rw [List.length_take] at hk
  obtain ⟨b, off, e, h1⟩ := h k (by omega)
  refine ⟨b, off, e, ?_⟩
  rw [h1, List.getD_eq_getElem?_getD, List.getD_eq_getElem?_getD, List.getElem?_take, if_pos (by omega)]
/-- The strings' bytes, one after another. -/
def catS (ss : List ByteArray) : List Nat := ss.flatMap sb
theorem catS_take (ss : List ByteArray) (k : Nat) (h : k < ss.length) : catS (ss.take (k + 1)) = catS (ss.take k) ++ sb (ss.getD k ByteArray.empty) := by
  unfold catS
  rw [List.take_add_one, List.flatMap_append, List.getElem?_eq_getElem h, List.getD_eq_getElem?_getD, List.getElem?_eq_getElem h]
  simp
theorem catS_lt (ss : List ByteArray) : ∀ x ∈ catS ss, x < 256 := by
  intro x hx
  obtain ⟨s, _, hx⟩ := List.mem_flatMap.1 hx
  exact sb_lt s x hx
theorem catS_len (ss : List ByteArray) (h : ∀ s ∈ ss, s.size ≤ 400) : (catS ss).length ≤ 400 * ss.length := by
  induction ss with
  | nil => simp [catS]
  | cons s ss ih =>
    have e : catS (s :: ss) = sb s ++ catS ss := rfl
    have h1 := h s (by simp)
    have h2 := ih fun t ht => h t (by simp [ht])
    rw [e, List.length_append, sb_len, List.length_cons]
    omega
def Few (ss : List ByteArray) : Prop := ss.length ≤ 12 ∧ ∀ s ∈ ss, s.size ≤ 400
theorem mem_getD {ss : List ByteArray} {k : Nat} (h : k < ss.length) : ss.getD k ByteArray.empty ∈ ss := by
  rw [List.getD_eq_getElem?_getD, List.getElem?_eq_getElem h]
  exact List.getElem_mem h
set_option maxRecDepth 100000 in
set_option maxHeartbeats 1000000 in
theorem few_any (a : Option Addr) (cap : Nat) (ss : List ByteArray) (w : World) (hp : StrsA w a ss) (hm : ss.length ≤ 9223372036854775807) (hz : ∀ s ∈ ss, s.size ≤ 9223372036854775807) :
    Calls Tryd.prog 18 #[.slice a ss.length cap] w fun e w' => (∃ f, e = .returned (.bool f) ∧ (f = true ↔ Few ss)) ∧ w = w' := by
  have HP := Lib.hid hp
  obtain ⟨L, hL⟩ : ∃ L, ss.length = L := ⟨_, rfl⟩
  have HLE := Lib.hid hL
  have HZ := Lib.hid hz
  have FW := Lib.hid (show Few ss ↔ L ≤ 12 ∧ ∀ s ∈ ss, s.size ≤ 400 by unfold Few; rw [hL])
  rw [hL] at hm ⊢
  clear hp hL hz
  by_cases h12 : 12 < L
  · go_enter Tryd.func18, Tryd.ntmps18
    go_wp2
    go_ret
    exact ⟨⟨false, rfl, by rw [FW.out]; simp; omega⟩, rfl⟩
  go_enter Tryd.func18, Tryd.ntmps18
  go_wp2
  go_loopw [3] (fun ui wr => ∃ k : Nat, k ≤ L ∧ ui = .int .i64 k ∧ Hid (∀ j, j < k → (ss.getD j ByteArray.empty).size ≤ 400) ∧ w = wr) (fun ui _ => L - (intOf ui).toNat)
  case atStart => exact ⟨0, by omega, rfl, Lib.hid (fun j h => by omega), rfl⟩
  case round =>
    obtain ⟨k, hk, rfl, hall, rfl⟩ := hrel
    by_cases hlt : k < L
    · obtain ⟨b, off, rfl, q1⟩ := HP.out k (by rw [HLE.out]; exact hlt)
      have zk := HZ.out _ (mem_getD (by rw [HLE.out]; exact hlt))
      have hbad := fun (h : ¬ (ss.getD k ByteArray.empty).size ≤ 400) (h2 : ∀ s ∈ ss, s.size ≤ 400) => h (h2 _ (mem_getD (by rw [HLE.out]; exact hlt)))
      have hnext : (ss.getD k ByteArray.empty).size ≤ 400 → ∀ j, j < k + 1 → (ss.getD j ByteArray.empty).size ≤ 400 := fun h j hj => by
        by_cases e : j = k
        · subst e; exact h
        · exact hall.out j (by omega)
      obtain ⟨t, ht⟩ : ∃ t, ss.getD k ByteArray.empty = t := ⟨_, rfl⟩
      rw [ht] at q1 zk hbad hnext
      by_cases h4 : t.size ≤ 400
      · have NX := Lib.hid (hnext h4)
        clear ht hbad hnext hall
        go_wp2
        go_roundw
        case rel => exact ⟨k + 1, by omega, by go_num, NX, trivial⟩
        case measure => simp [intOf]; omega
      · have BD := Lib.hid (hbad h4)
        clear ht hbad hnext hall
        go_wp2
        go_ret
        exact ⟨⟨false, rfl, by rw [FW.out]; simp only [Bool.false_eq_true, false_iff]; intro h; exact BD.out h.2⟩, rfl⟩
    · have AL := Lib.hid (show ∀ s ∈ ss, s.size ≤ 400 from fun s hs => by
        obtain ⟨j, hj, rfl⟩ := List.getElem_of_mem hs
        have := hall.out j (by have := HLE.out; omega)
        rwa [List.getD_eq_getElem?_getD, List.getElem?_eq_getElem hj] at this)
      clear hall
      go_wp2
      go_ret
      exact ⟨⟨true, rfl, by rw [FW.out]; exact ⟨fun _ => ⟨by omega, AL.out⟩, fun _ => rfl⟩⟩, rfl⟩
theorem strB_app (l m : List Nat) : strB l ++ strB m = strB (l ++ m) := by
  unfold strB
  rw [List.map_append]
  apply ByteArray.ext
  simp [strOfNums]
set_option maxRecDepth 100000 in
set_option maxHeartbeats 1000000 in
theorem joined_any (a : Option Addr) (cap : Nat) (ss : List ByteArray) (w : World) (hp : StrsA w a ss) (hf : Few ss) :
    Calls Tryd.prog 21 #[.slice a ss.length cap] w fun e w' => e = .returned (.string (strB (catS ss))) ∧ w = w' := by
  have HP := Lib.hid hp
  obtain ⟨L, hL⟩ : ∃ L, ss.length = L := ⟨_, rfl⟩
  have HLE := Lib.hid hL
  have hm : L ≤ 12 := by have := hf.1; omega
  have HF := Lib.hid hf
  rw [hL]
  clear hp hL hf
  go_enter Tryd.func21, Tryd.ntmps21
  go_wp2
  go_loopw [3, 4] (fun uv ui wr => ∃ (k : Nat) (t : ByteArray), k ≤ L ∧ ui = .int .i64 k ∧ uv = .string t ∧ Hid (t = strB (catS (ss.take k))) ∧ w = wr) (fun _ ui _ => L - (intOf ui).toNat)
  case atStart => exact ⟨0, _, by omega, rfl, rfl, Lib.hid rfl, rfl⟩
  case round =>
    obtain ⟨k, t, hk, rfl, rfl, ht, rfl⟩ := hrel
    by_cases hlt : k < L
    · obtain ⟨b, off, rfl, q1⟩ := HP.out k (by rw [HLE.out]; exact hlt)
      have hc := catS_take ss k (by rw [HLE.out]; exact hlt)
      have e : t ++ ss.getD k ByteArray.empty = strB (catS (ss.take (k + 1))) := by rw [hc, ← strB_app, strB_sb, ht.out]
      have zu : (ss.getD k ByteArray.empty).size ≤ 400 := HF.out.2 _ (mem_getD (by rw [HLE.out]; exact hlt))
      have zt : t.size ≤ 4800 := by
        rw [ht.out, strB_size]
        have := catS_len (ss.take k) fun s hs => HF.out.2 s (List.mem_of_mem_take hs)
        rw [List.length_take] at this
        omega
      obtain ⟨u, hu⟩ : ∃ t, ss.getD k ByteArray.empty = t := ⟨_, rfl⟩
      rw [hu] at q1 e zu
      have E := Lib.hid e
      clear hc hu e ht
      go_wp2
      go_roundw
      case rel => exact ⟨k + 1, t ++ u, by omega, by go_num, rfl, E, trivial⟩
      case measure => simp [intOf]; omega
    · have e := ht.out
      rw [List.take_of_length_le (by rw [HLE.out]; omega)] at e
      have E := Lib.hid e
      clear e ht
      go_wp2
      go_ret
      exact ⟨by rw [E.out]; rfl, rfl⟩
theorem slice_hi (W : World) (a : Option Addr) (n cap k : Nat) (hk : k ≤ cap) (hc : cap ≤ 9223372036854775807) (h0 : a = none → cap = 0) : (Instr.slice 26 (.slice a n cap) none (some (.int .i64 (k : Int))) none).run Tryd.prog W = .ok (.slice a k cap) W := by
  have hu := Tryd.underlying26
  have h1 : (0 : Int) ≤ (k : Int) ∧ (k : Int) ≤ (cap : Int) := by omega
  cases a with
  | none =>
    obtain rfl := h0 rfl
    obtain rfl : k = 0 := by omega
    simp [Instr.slice, Instr.sliceBounds, Instr.sliceBound, asIntOf, run_underlying hu, go_sem]
  | some p =>
    simp [Instr.slice, Instr.sliceBounds, Instr.sliceBound, asIntOf, run_underlying hu, go_sem, h1]
    intro h; omega
end Go.Proofs.YtjeipkoomefekaaDoor
