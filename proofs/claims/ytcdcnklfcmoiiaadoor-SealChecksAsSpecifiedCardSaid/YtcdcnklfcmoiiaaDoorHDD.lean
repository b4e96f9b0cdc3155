/- Ported from another seat (wip/hash/DD.src, by wip/port.py): contracts that this chapter calls. -/
import Derived.Test.YtcdcnklfcmoiiaaDoorHCC
namespace Go.Proofs.YtcdcnklfcmoiiaaDoor
set_option linter.unusedVariables false
set_option linter.unusedSimpArgs false
namespace Hs
open Go.RowKit
set_option maxRecDepth 100000 in
theorem digs_lt : ∀ (n z : Nat), z ≤ n → ∀ x ∈ Wi.digs z, x < 256
  | n, z, hz => by
    intro x hx
    rw [Wi.digs] at hx
    split at hx
    · simp at hx; omega
    · rcases List.mem_cons.1 hx with h | h
      · omega
      · cases n with
        | zero => omega
        | succ n => exact digs_lt n (z / 128) (by omega) x h
set_option maxRecDepth 100000 in
theorem enc_lt (n : Int) : ∀ x ∈ Wi.enc n, x < 256 := digs_lt _ _ (Nat.le_refl _)
def encS (s : ByteArray) : List Nat := Wi.enc s.size ++ sb s
/-- What Of hashes. -/
def inL (t : Nat) (ss : List ByteArray) : List Nat := t :: ss.flatMap encS
set_option maxRecDepth 100000 in
theorem inL_take (t : Nat) (ss : List ByteArray) (k : Nat) (h : k < ss.length) : inL t (ss.take (k + 1)) = inL t (ss.take k) ++ encS (ss.getD k ByteArray.empty) := by
  unfold inL
  rw [List.take_add_one, List.flatMap_append, List.getElem?_eq_getElem h, List.getD_eq_getElem?_getD, List.getElem?_eq_getElem h]
  simp
set_option maxRecDepth 100000 in
theorem enc_len (n : Nat) (h : n ≤ 1000000) : (Wi.enc n).length ≤ 10 := by
  have := Wi.digs_len 9 (Wi.foldZ n) (Nat.lt_trans (Wi.fold_lt n (by omega) (by omega)) (by decide))
  exact this
set_option maxRecDepth 100000 in
theorem encS_len (s : ByteArray) (h : s.size ≤ 400) : (encS s).length ≤ 410 := by
  unfold encS
  have := enc_len s.size (by omega)
  rw [List.length_append, sb_len]
  omega
set_option maxRecDepth 100000 in
theorem inL_len (t : Nat) (ss : List ByteArray) (h : ∀ s ∈ ss, s.size ≤ 400) : (inL t ss).length ≤ 1 + 410 * ss.length := by
  induction ss with
  | nil => simp [inL]
  | cons s ss ih =>
    have h1 := encS_len s (h s (by simp))
    have h2 := ih fun u hu => h u (by simp [hu])
    unfold inL at h2 ⊢
    rw [List.flatMap_cons]
    simp only [List.length_cons, List.length_append] at h2 ⊢
    omega
set_option maxRecDepth 100000 in
theorem OwnB.single (w : World) (B g x : Nat) (h : w.heap.size = g) (hB : B ≤ g) : OwnB (w.alloc (.cells #[bv x] 5)) B (.slice (some ⟨g, 0, none⟩) 1 1) [x] := by
  subst h
  exact ⟨rfl, .inr ⟨w.heap.size, 1, #[bv x], rfl, hB, heap_alloc_new w _, Nat.le_refl _, by decide, rfl, rfl⟩⟩
set_option maxRecDepth 100000 in
set_option maxHeartbeats 1000000 in
theorem encS_any (t : ByteArray) (w : World) (hz : t.size ≤ 1000000) : Calls Tryd.prog 100 #[.string t] w (Gives w.heap.size w (encS t)) := by
  have C := Lib.hid (fun W : World => Wi.intref_any (t.size : Nat) W (by omega) (by omega))
  have lc := Lib.hid (enc_len t.size hz)
  have ls := Lib.hid (show (sb t).length ≤ 1000000000 by rw [sb_len]; omega)
  obtain ⟨E, hE⟩ : ∃ m, Wi.enc (t.size : Nat) = m := ⟨_, rfl⟩
  have HE := Lib.hid hE
  have le := Lib.hid (show E.length ≤ 1000000000 by rw [← hE]; have := lc.out; omega)
  simp only [hE] at C
  clear lc hE
  go_enter Tryd.func100, Tryd.ntmps100
  go_wp2_with fail
  refine (C.out _).mono ?_
  rintro e w1 ⟨v, rfl, ho, hb1⟩
  have O1 := Lib.hid ho; have B1 := Lib.hid hb1
  clear ho hb1
  go_wp2_with (at_builtin; refine wpAppS rfl _ _ 9 rfl w.heap.size _ _ rfl O1.out _ (sb t) rfl (src_string t _) le.out ls.out B1.out.size ?_)
  intro v2 w2 ho hb2
  have O2 := Lib.hid ho; have B2 := Lib.hid (B1.out.trans hb2)
  clear ho hb2
  go_wp2
  go_ret
  exact ⟨_, rfl, by unfold encS; rw [HE.out]; exact O2.out, B2.out⟩
set_option maxRecDepth 100000 in
set_option maxHeartbeats 1000000 in
theorem input_any (tag : Int) (t : Nat) (a : Option Addr) (cap : Nat) (ss : List ByteArray) (w : World) (ht : tag % 256 = t) (hp : StrsA w a ss) (hf : Few ss) :
    Calls Tryd.prog 92 #[.int .i64 tag, .slice a ss.length cap] w (Gives w.heap.size w (inL t ss)) := by
  have HP := Lib.hid hp
  obtain ⟨L, hL⟩ : ∃ L, ss.length = L := ⟨_, rfl⟩
  have HLE := Lib.hid hL
  have hm : L ≤ 40 := by have := hf.1; omega
  have HF := Lib.hid hf
  have wt : IntKind.u8.wrap tag = (t : Int) := by rw [IntKind.wrap_u8']; exact ht
  rw [hL]
  clear hp hL hf
  go_enter Tryd.func92, Tryd.ntmps92
  go_wp2
  go_loopw [5, 6] (fun uv ui wr => ∃ k : Nat, k ≤ L ∧ ui = .int .i64 k ∧ Hid (OwnB wr w.heap.size uv (inL t (ss.take k))) ∧ Hid (Below w.heap.size w wr)) (fun _ ui _ => L - (intOf ui).toNat)
  case atStart => exact ⟨0, by omega, rfl, Lib.hid (OwnB.single w _ _ t rfl (Nat.le_refl _)), Lib.hid (by (repeat' (first | (with_reducible exact Below.refl _ _) | (with_reducible assumption) | (with_reducible refine Below.alloc ?_ ?_ _) | (with_reducible refine Below.drew ?_) | (with_reducible refine below_dn ?_) | (with_reducible refine Below.setCell ?_ ?_ _) | (with_reducible exact Nat.le_refl _) | omega | (simp only [World.size_alloc, World.size_setCell, World.size_drew]; omega) | (simp; omega) | (simp; done))))⟩
  case round =>
    obtain ⟨k, hk, rfl, how, hbe⟩ := hrel
    by_cases hlt : k < L
    · obtain ⟨b, off, rfl, q1⟩ := HP.out.mono hbe.out k (by rw [HLE.out]; exact hlt)
      have zk := HF.out.2 _ (mem_getD (show k < ss.length by rw [HLE.out]; exact hlt))
      have hln := Lib.hid (show (inL t (ss.take k)).length ≤ 1000000000 by
        have := inL_len t (ss.take k) fun s hs => HF.out.2 s (List.mem_of_mem_take hs)
        rw [List.length_take] at this; omega)
      have hnx := inL_take t ss k (by rw [HLE.out]; exact hlt)
      obtain ⟨u, hu⟩ : ∃ m, ss.getD k ByteArray.empty = m := ⟨_, rfl⟩
      rw [hu] at q1 zk hnx
      have C := Lib.hid (fun W : World => encS_any u W (by omega))
      have fl : ∀ x ∈ encS u, x < 256 := fun x hx => by
        rcases List.mem_append.1 hx with h | h
        · exact enc_lt _ _ h
        · exact sb_lt u x h
      have le := encS_len u zk
      obtain ⟨F, hF⟩ : ∃ m, encS u = m := ⟨_, rfl⟩
      rw [hF] at hnx fl le; simp only [hF] at C
      have V := Lib.hid (fun (W : World) (B : Nat) (v : Value) (h : OwnB W B v F) => OwnB.view h fl)
      have HX := Lib.hid hnx
      have F5 := Lib.hid (show F.length ≤ 1000000000 by omega)
      clear hu hF hnx fl le zk
      go_wp2_with fail
      refine (C.out _).mono ?_
      rintro e w2 ⟨v, rfl, ho, hb2⟩
      obtain ⟨a2, c2, rfl, -, y2⟩ := V.out _ _ _ ho
      have Y2 := Lib.hid y2
      have O2 := Lib.hid (show OwnB w2 w.heap.size _ _ from own_below how.out hb2)
      have B2 := Lib.hid (bt hbe.out hb2)
      have S2 := Lib.hid (B2.out.size)
      clear ho hb2 y2 how hbe
      go_wp2_with (at_builtin; refine wpAppS rfl _ _ 102 rfl w.heap.size _ _ rfl O2.out _ F rfl (src_bytes Y2.out) hln.out F5.out S2.out ?_)
      intro v' w3 hown' hb3
      have HO' := Lib.hid (show OwnB w3 w.heap.size v' (inL t (ss.take (k + 1))) by rw [HX.out]; exact hown')
      have HB3 := Lib.hid (B2.out.trans hb3)
      clear hown' hb3
      go_wp2
      go_roundw
      case rel => exact ⟨k + 1, by omega, by go_num, HO', HB3⟩
      case measure => simp [intOf]; omega
    · have ho := how.out
      rw [List.take_of_length_le (by rw [HLE.out]; omega)] at ho
      go_wp2
      go_ret
      exact ⟨_, rfl, ho, hbe.out⟩
end Hs
end Go.Proofs.YtcdcnklfcmoiiaaDoor
