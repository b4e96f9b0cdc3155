import Derived.Test.YteblnmhaohbkkaaDoorRP4
import Derived.Test.YteblnmhaohbkkaaDoorRP3
import Derived.Laws.BitsAllLaws
import Derived.WalkKit
import Derived.WalkLawsBesides
import Derived.WalkSpells
import Derived.StillTactics
import Derived.Laws.Pointers
import Derived.Lib.MinMax
import Derived.RowKit3
import Derived.Outline
import Derived.Lib.Hide
import Derived.Lib.QuietBelow
import Derived.OpenShut
import Derived.Deep.QuietTactic
import Derived.BigQuiet
import Derived.Lib.Zigzag
namespace Go.Proofs.YteblnmhaohbkkaaDoor
set_option linter.unusedVariables false
set_option linter.unusedSimpArgs false
set_option linter.unusedSectionVars false
section
namespace Hs
open Go.RowKit
def StrsA (W : World) (a : Option Addr) (ss : List ByteArray) : Prop :=
  ∀ k, k < ss.length → ∃ b off, a = some ⟨b, off, none⟩ ∧ W.cell? ⟨b, off + k, none⟩ = some (.string (ss.getD k ByteArray.empty))
set_option maxRecDepth 100000 in
theorem StrsA.mono {W W' : World} {a : Option Addr} {ss : List ByteArray} (h : StrsA W a ss) (hb : Below W.heap.size W W') : StrsA W' a ss := by
  intro k hk
  obtain ⟨b, off, e, h1⟩ := h k hk
  exact ⟨b, off, e, keep h1 hb⟩
set_option maxRecDepth 100000 in
theorem StrsA.take {W : World} {a : Option Addr} {ss : List ByteArray} (h : StrsA W a ss) (n : Nat) : StrsA W a (ss.take n) := by
  intro k hk
  rw [List.length_take] at hk
  obtain ⟨b, off, e, h1⟩ := h k (by omega)
  refine ⟨b, off, e, ?_⟩
  rw [h1, List.getD_eq_getElem?_getD, List.getD_eq_getElem?_getD, List.getElem?_take, if_pos (by omega)]
def Few (ss : List ByteArray) : Prop := ss.length ≤ 40 ∧ ∀ s ∈ ss, s.size ≤ 400
set_option maxRecDepth 100000 in
theorem mem_getD {ss : List ByteArray} {k : Nat} (h : k < ss.length) : ss.getD k ByteArray.empty ∈ ss := by
  rw [List.getD_eq_getElem?_getD, List.getElem?_eq_getElem h]
  exact List.getElem_mem h
end Hs
end
section
namespace Hs
open Go.RowKit
def InS (X : Array Value) (m : List Nat) : Prop := ∃ s r, Is s r m ∧ X = svA s r m.length
set_option maxRecDepth 100000 in
theorem InS.size {X : Array Value} {m : List Nat} (h : InS X m) : X.size = 73 := by obtain ⟨s, r, h, rfl⟩ := h; exact svA_size _ _ _ h.len
set_option maxRecDepth 100000 in
theorem InS.one {X : Array Value} {m : List Nat} (h : InS X m) : X.all (·.oneCell') = true := by obtain ⟨s, r, h, rfl⟩ := h; exact svA_one _ _ _
set_option maxRecDepth 100000 in
theorem InS.info {X : Array Value} {m : List Nat} (h : InS X m) : (Tryd.prog.info? 136).map (·.size) = some X.size := by rw [h.size]; kernel_rfl
set_option maxRecDepth 100000 in
theorem InS.old {X : Array Value} {m : List Nat} (h : InS X m) : (svA st00 z64 0).size = X.size := by rw [h.size]; rfl
set_option maxRecDepth 100000 in
theorem inSum_any (X : Array Value) (m : List Nat) (w : World) (h : InS X m) (hN : m.length < 1152921504606846976) (hla : LaidC w) :
    Calls Tryd.prog 81 #[.agg X] w fun e w' => e = .returned (.agg (bvs (sha m))) ∧ Below w.heap.size w w' := by
  obtain ⟨s, r, hI, rfl⟩ := h
  exact sum_any s r m w hI hN hla
end Hs
end
section
namespace Hs
namespace Wi
open Go.RowKit
def foldZ (n : Int) : Nat := if n < 0 then (2 * (-1 - n) + 1).toNat else (2 * n).toNat
set_option maxRecDepth 100000 in
theorem fold_lt (n : Int) (h1 : -9223372036854775808 ≤ n) (h2 : n ≤ 9223372036854775807) : foldZ n < 18446744073709551616 := by
  unfold foldZ
  split <;> omega
def digs (z : Nat) : List Nat := if z < 128 then [z] else (z % 128 + 128) :: digs (z / 128)
termination_by z
decreasing_by omega
set_option maxRecDepth 100000 in
theorem digs_lo {z : Nat} (h : z < 128) : digs z = [z] := by rw [digs, if_pos h]
set_option maxRecDepth 100000 in
theorem digs_hi {z : Nat} (h : 128 ≤ z) : digs z = (z % 128 + 128) :: digs (z / 128) := by rw [digs, if_neg (by omega)]
set_option maxRecDepth 100000 in
theorem digs_ne (z : Nat) : 1 ≤ (digs z).length := by
  rw [digs]; split <;> simp
set_option maxRecDepth 100000 in
theorem digs_len : ∀ (k z : Nat), z < 2 ^ (7 * (k + 1)) → (digs z).length ≤ k + 1
  | 0, z, h => by rw [digs_lo (by simpa using h)]; simp
  | k + 1, z, h => by
    by_cases hz : z < 128
    · rw [digs_lo hz]; simp
    · rw [digs_hi (by omega), List.length_cons]
      have e : 7 * (k + 1 + 1) = 7 * (k + 1) + 7 := by omega
      rw [e, Nat.pow_add] at h
      have := digs_len k (z / 128) (by
        apply Nat.div_lt_of_lt_mul
        have e : (2 : Nat) ^ 7 = 128 := rfl
        rw [e] at h
        omega)
      omega
def enc (n : Int) : List Nat := digs (foldZ n)
set_option maxRecDepth 100000 in
theorem enc_len (n : Int) (h1 : -9223372036854775808 ≤ n) (h2 : n ≤ 9223372036854775807) : 1 ≤ (enc n).length ∧ (enc n).length ≤ 10 :=
  ⟨digs_ne _, digs_len 9 _ (Nat.lt_trans (fold_lt n h1 h2) (by decide))⟩
set_option maxRecDepth 100000 in
theorem xor_lo (x : Nat) (h : x < 18446744073709551616) : bits .xor .u64 (x : Int) 0 = x := by
  have := bits_xor_u64_nat x 0 h (by decide)
  simpa using this
set_option maxRecDepth 100000 in
theorem xor_hi (x : Nat) (h : x < 18446744073709551616) : bits .xor .u64 (x : Int) 18446744073709551615 = 18446744073709551615 - (x : Int) := by
  have := bits_xor_u64_nat x (2 ^ 64 - 1) h (by decide)
  rw [Nat.xor_comm, Lib.xor_ones64 x (by omega)] at this
  have e : ((2 ^ 64 - 1 : Nat) : Int) = 18446744073709551615 := by decide
  rw [e] at this
  rw [this]; omega
set_option maxRecDepth 100000 in
theorem fold_bits (n : Int) (h1 : -9223372036854775808 ≤ n) (h2 : n ≤ 9223372036854775807) : bits .xor .u64 (IntKind.u64.wrap (IntKind.u64.wrap n * 2)) (IntKind.u64.wrap (n / 9223372036854775808)) = (foldZ n : Nat) := by
  rw [IntKind.wrap_u64, IntKind.wrap_u64, IntKind.wrap_u64]
  unfold foldZ
  split
  · have e : n % 18446744073709551616 * 2 % 18446744073709551616 = ((2 * n + 18446744073709551616).toNat : Nat) := by omega
    rw [show n / 9223372036854775808 % 18446744073709551616 = 18446744073709551615 by omega, e, xor_hi _ (by omega)]
    omega
  · have e : n % 18446744073709551616 * 2 % 18446744073709551616 = ((2 * n).toNat : Nat) := by omega
    rw [show n / 9223372036854775808 % 18446744073709551616 = 0 by omega, e, xor_lo _ (by omega)]
set_option maxRecDepth 100000 in
theorem fold_any (n : Int) (w : World) (h1 : -9223372036854775808 ≤ n) (h2 : n ≤ 9223372036854775807) :
    Calls Tryd.prog 99 #[.int .i64 n] w fun e w' => e = .returned (.int .u64 (foldZ n : Nat)) ∧ w = w' := by
  go_enter Tryd.func99, Tryd.ntmps99
  go_wp2
  go_ret
  exact ⟨ret_int (fold_bits n h1 h2), rfl⟩
set_option maxRecDepth 100000 in
theorem or_hi (z : Nat) : Value.int .u8 (bits .or .u8 (IntKind.u8.wrap (z : Int)) 128) = bv (z % 128 + 128) := by
  have h : IntKind.u8.wrap (z : Int) = ((z % 256 : Nat) : Int) := by rw [IntKind.wrap_u8']; omega
  have h2 := u8_or_nat (z % 256) 128 (by omega) (by omega)
  have h3 : z % 256 ||| 128 = z % 128 + 128 := by
    rcases Nat.lt_or_ge (z % 256) 128 with h | h
    · rw [Nat.or_comm, nat_join 7 128 (z % 256) (by decide) (by simpa using h)]; omega
    · have : z % 256 = 128 + z % 128 := by omega
      rw [this, ← nat_join 7 128 (z % 128) (by decide) (by omega), Nat.or_assoc, Nat.or_comm (z % 128), ← Nat.or_assoc, Nat.or_self, nat_join 7 128 (z % 128) (by decide) (by omega)]
      omega
  rw [h]
  unfold bv
  rw [← h3]
  exact congrArg _ h2
set_option maxRecDepth 100000 in
set_option maxHeartbeats 1000000 in
theorem appendInt_any (n : Int) (B : Nat) (v : Value) (l : List Nat) (w : World) (h1 : -9223372036854775808 ≤ n) (h2 : n ≤ 9223372036854775807) (hB : B ≤ w.heap.size) (hown : OwnB w B v l) (hl : l.length ≤ 1000000) :
    Calls Tryd.prog 91 #[v, .int .i64 n] w (Gives B w (l ++ enc n)) := by
  obtain ⟨i0, hi, hz0, hz1, hz2⟩ := info_parts infoB
  have HO := Lib.hid hown; clear hown
  have HF := Lib.hid (fold_lt n h1 h2)
  go_enter Tryd.func91, Tryd.ntmps91
  go_wp2_with fail
  refine (fold_any _ _ (by omega) (by omega)).mono ?_
  rintro e w1 ⟨rfl, rfl⟩
  obtain ⟨z0, hz⟩ : ∃ z, foldZ n = z := ⟨_, rfl⟩
  rw [hz] at HF ⊢
  have HZ := Lib.hid hz; clear hz
  go_wp2
  go_loopw [0, 5] (fun u0 u5 wr => ∃ (z : Nat) (pre : List Nat), u5 = .int .u64 (z : Nat) ∧ Hid (z < 18446744073709551616) ∧ Hid (pre ++ digs z = digs z0) ∧ Hid (OwnB wr B u0 (l ++ pre)) ∧ Hid (pre.length ≤ 10) ∧ Hid (Below B w wr)) (fun u0 u5 _ => (intOf u5).toNat)
  case atStart => exact ⟨z0, [], rfl, HF, rfl, Lib.hid (by rw [List.append_nil]; exact HO.out), Lib.hid (Nat.zero_le _), Below.refl _ _⟩
  case round =>
    obtain ⟨z, pre, rfl, hzl, hpre, how, hpl, hbe⟩ := hrel
    by_cases hz : 128 ≤ z
    · go_wp2_with (at_builtin; refine wpApp rfl _ _ rfl B _ _ rfl how.out (z % 128 + 128) _ ?hy rfl ?hlen ?hBB ?_)
      case hy => exact or_hi z
      case hlen => have := hpl.out; rw [List.length_append]; omega
      case hBB => exact Nat.le_trans hB hbe.out.size
      intro v' w2 hown' hb2
      have HO' := Lib.hid hown'
      have HB2 := Lib.hid (hbe.out.trans hb2)
      clear hown' hb2
      go_wp2
      go_roundw
      case rel => 
        have hp := hpre.out
        rw [digs_hi hz] at hp
        exact ⟨z / 128, pre ++ [z % 128 + 128], by go_num, Lib.hid (by have := hzl.out; omega), Lib.hid (by rw [List.append_assoc]; exact hp), HO', Lib.hid (by have h3 := congrArg List.length hp; have h4 := digs_len 9 z0 (Nat.lt_trans HF.out (by decide)); rw [← h3, List.length_append, List.length_cons] at h4; have h5 := digs_ne (z / 128); rw [List.length_append, List.length_singleton]; omega), HB2⟩
      case measure => simp [intOf]; omega
    · go_wp2_with (at_builtin; refine wpApp rfl _ _ rfl B _ _ rfl how.out z _ ?hy rfl ?hlen ?hBB ?_)
      case hy => rfl
      case hlen => have := hpl.out; rw [List.length_append]; omega
      case hBB => exact Nat.le_trans hB hbe.out.size
      intro v' w2 hown' hb2
      have HO' := Lib.hid hown'
      have HB2 := Lib.hid (hbe.out.trans hb2)
      clear hown' hb2
      go_wp2
      go_ret
      have hp := hpre.out
      rw [digs_lo (by omega)] at hp
      refine ⟨_, rfl, ?_, HB2.out⟩
      show OwnB _ _ _ (l ++ digs (foldZ n))
      rw [HZ.out, ← hp]
      exact HO'.out
set_option maxRecDepth 100000 in
theorem int_any (n : Int) (w : World) (h1 : -9223372036854775808 ≤ n) (h2 : n ≤ 9223372036854775807) :
    Calls Tryd.prog 80 #[.int .i64 n] w (Gives w.heap.size w (enc n)) := by
  go_enter Tryd.func80, Tryd.ntmps80
  go_wp2_with fail
  refine (appendInt_any n w.heap.size _ [] w h1 h2 (Nat.le_refl _) (OwnB.nil _ _) (by simp)).mono ?_
  rintro e w1 ⟨v, rfl, hv, hb⟩
  go_wp2
  go_ret
  exact ⟨_, rfl, hv, hb⟩
end Wi
end Hs
end
section
namespace Hs
open Go.RowKit
set_option maxRecDepth 100000 in
theorem digs_lt : ∀ (n z : Nat), z ≤ n → ∀ x ∈ Wi.digs z, x < 256
  | n, z, hz => by
    intro x hx
    rw [Wi.digs] at hx
    split at hx
    · simp at hx; omega
    · rcases List.mem_cons.1 hx with h | h
      · omega
      · cases n with
        | zero => omega
        | succ n => exact digs_lt n (z / 128) (by omega) x h
set_option maxRecDepth 100000 in
theorem enc_lt (n : Int) : ∀ x ∈ Wi.enc n, x < 256 := digs_lt _ _ (Nat.le_refl _)
def encS (s : ByteArray) : List Nat := Wi.enc s.size ++ sb s
def inL (t : Nat) (ss : List ByteArray) : List Nat := t :: ss.flatMap encS
set_option maxRecDepth 100000 in
theorem inL_take (t : Nat) (ss : List ByteArray) (k : Nat) (h : k < ss.length) : inL t (ss.take (k + 1)) = inL t (ss.take k) ++ encS (ss.getD k ByteArray.empty) := by
  unfold inL
  rw [List.take_add_one, List.flatMap_append, List.getElem?_eq_getElem h, List.getD_eq_getElem?_getD, List.getElem?_eq_getElem h]
  simp
set_option maxRecDepth 100000 in
theorem enc_len (n : Nat) (h : n ≤ 1000000) : (Wi.enc n).length ≤ 10 := by
  have := Wi.digs_len 9 (Wi.foldZ n) (Nat.lt_trans (Wi.fold_lt n (by omega) (by omega)) (by decide))
  exact this
set_option maxRecDepth 100000 in
theorem encS_len (s : ByteArray) (h : s.size ≤ 400) : (encS s).length ≤ 410 := by
  unfold encS
  have := enc_len s.size (by omega)
  rw [List.length_append, sb_len]
  omega
set_option maxRecDepth 100000 in
theorem inL_len (t : Nat) (ss : List ByteArray) (h : ∀ s ∈ ss, s.size ≤ 400) : (inL t ss).length ≤ 1 + 410 * ss.length := by
  induction ss with
  | nil => simp [inL]
  | cons s ss ih =>
    have h1 := encS_len s (h s (by simp))
    have h2 := ih fun u hu => h u (by simp [hu])
    unfold inL at h2 ⊢
    rw [List.flatMap_cons]
    simp only [List.length_cons, List.length_append] at h2 ⊢
    omega
end Hs
end
end Go.Proofs.YteblnmhaohbkkaaDoor
