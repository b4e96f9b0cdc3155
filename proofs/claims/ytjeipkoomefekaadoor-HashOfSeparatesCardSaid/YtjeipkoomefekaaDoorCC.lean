/- The encoding of integers (chapter 1), at this seat. -/
import Derived.Test.YtjeipkoomefekaaDoorBB
import Derived.Laws.BitsAllLaws
import Derived.WalkKit
import Derived.WalkLawsBesides
import Derived.WalkSpells
import Derived.StillTactics
import Derived.Laws.Pointers
import Derived.Lib.MinMax
import Derived.RowKit3
import Derived.Outline
import Derived.Lib.Hide
import Derived.Lib.QuietBelow
import Derived.OpenShut
import Derived.Deep.QuietTactic
import Derived.BigQuiet
import Derived.Lib.Zigzag
namespace Go.Proofs.YtjeipkoomefekaaDoor
set_option linter.unusedVariables false
set_option linter.unusedSimpArgs false
namespace Wi
open Go.RowKit

/-- Small numbers stay small, whatever their sign. -/
def foldZ (n : Int) : Nat := if n < 0 then (2 * (-1 - n) + 1).toNat else (2 * n).toNat
def unfoldZ (z : Nat) : Int := if z % 2 = 1 then -1 - ((z / 2 : Nat) : Int) else ((z / 2 : Nat) : Int)
theorem unfold_fold (n : Int) : unfoldZ (foldZ n) = n := by
  unfold unfoldZ foldZ
  split <;> split <;> omega
theorem fold_unfold (z : Nat) : foldZ (unfoldZ z) = z := by
  unfold unfoldZ foldZ
  split <;> split <;> omega
theorem fold_lt (n : Int) (h1 : -9223372036854775808 ≤ n) (h2 : n ≤ 9223372036854775807) : foldZ n < 18446744073709551616 := by
  unfold foldZ
  split <;> omega
theorem unfold_bd (z : Nat) (h : z < 18446744073709551616) : -9223372036854775808 ≤ unfoldZ z ∧ unfoldZ z ≤ 9223372036854775807 := by
  unfold unfoldZ
  split <;> omega
/-- The digits of base 128, the least first; all but the last are raised by 128. -/
def digs (z : Nat) : List Nat := if z < 128 then [z] else (z % 128 + 128) :: digs (z / 128)
termination_by z
decreasing_by omega
theorem digs_lo {z : Nat} (h : z < 128) : digs z = [z] := by rw [digs, if_pos h]
theorem digs_hi {z : Nat} (h : 128 ≤ z) : digs z = (z % 128 + 128) :: digs (z / 128) := by rw [digs, if_neg (by omega)]
theorem digs_ne (z : Nat) : 1 ≤ (digs z).length := by
  rw [digs]; split <;> simp
theorem digs_bd : ∀ (z : Nat), ∀ x ∈ digs z, x < 256 := by
  intro z
  induction z using Nat.strongRecOn with
  | _ z ih =>
    intro x hx
    by_cases h : z < 128
    · rw [digs_lo h] at hx; simp at hx; omega
    · rw [digs_hi (by omega)] at hx
      rcases List.mem_cons.1 hx with rfl | hx
      · omega
      · exact ih (z / 128) (by omega) x hx
/-- How many elements from the first on are 128 or more. -/
def lead : List Nat → Nat
  | [] => 0
  | x :: xs => if 128 ≤ x then lead xs + 1 else 0
theorem lead_le : ∀ l : List Nat, lead l ≤ l.length
  | [] => Nat.le_refl _
  | x :: xs => by unfold lead; split <;> simp [lead_le xs]
theorem lead_at : ∀ (l : List Nat) (k : Nat), k < lead l → 128 ≤ l.getD k 0
  | [], k, h => by simp [lead] at h
  | x :: xs, k, h => by
    unfold lead at h
    split at h
    · cases k with
      | zero => simpa using ‹128 ≤ x›
      | succ k => simpa using lead_at xs k (by omega)
    · omega
theorem lead_end : ∀ (l : List Nat), lead l < l.length → l.getD (lead l) 0 < 128
  | [], h => by simp at h
  | x :: xs, h => by
    unfold lead at h ⊢
    split
    · rename_i hx
      rw [if_pos hx] at h
      simpa using lead_end xs (by simpa using h)
    · simp; omega
theorem lead_is : ∀ (l : List Nat) (k : Nat), (∀ j, j < k → 128 ≤ l.getD j 0) → l.getD k 0 < 128 → k < l.length → lead l = k
  | [], k, _, _, h => by simp at h
  | x :: xs, 0, _, h, _ => by
    simp at h
    unfold lead
    rw [if_neg (by omega)]
  | x :: xs, k + 1, h0, h1, h2 => by
    unfold lead
    rw [if_pos (by simpa using h0 0 (by omega)), lead_is xs k (fun j hj => by simpa using h0 (j + 1) (by omega)) (by simpa using h1) (by simpa using h2)]
theorem lead_ge : ∀ (l : List Nat) (k : Nat), (∀ j, j < k → 128 ≤ l.getD j 0) → k ≤ lead l
  | l, 0, _ => Nat.zero_le _
  | [], k + 1, h => by have := h 0 (by omega); simp at this
  | x :: xs, k + 1, h => by
    unfold lead
    rw [if_pos (by simpa using h 0 (by omega))]
    have := lead_ge xs k (fun j hj => by simpa using h (j + 1) (by omega))
    omega
/-- The value of digits, the least first. -/
def val : List Nat → Nat
  | [] => 0
  | x :: xs => x % 128 + 128 * val xs
theorem val_digs : ∀ z, val (digs z) = z := by
  intro z
  induction z using Nat.strongRecOn with
  | _ z ih =>
    by_cases h : z < 128
    · rw [digs_lo h]; simp [val]; omega
    · rw [digs_hi (by omega)]
      unfold val
      rw [ih (z / 128) (by omega)]
      omega
theorem val_snoc : ∀ (l : List Nat) (x : Nat), val (l ++ [x]) = val l + x % 128 * 2 ^ (7 * l.length)
  | [], x => by simp [val]
  | y :: ys, x => by
    simp only [List.cons_append, val, List.length_cons]
    rw [val_snoc ys x, Nat.mul_add, Nat.add_assoc]
    congr 1; congr 1
    rw [show 7 * (ys.length + 1) = 7 * ys.length + 7 by omega, Nat.pow_add]
    rw [← Nat.mul_assoc, Nat.mul_comm 128, Nat.mul_assoc]
    congr 1
    exact Nat.mul_comm _ _
theorem val_lt : ∀ (l : List Nat), val l < 2 ^ (7 * l.length)
  | [] => by simp [val]
  | y :: ys => by
    have := val_lt ys
    simp only [val, List.length_cons]
    rw [show 7 * (ys.length + 1) = 7 * ys.length + 7 by omega, Nat.pow_add]
    have e : (2 : Nat) ^ 7 = 128 := rfl
    rw [e]
    omega
theorem lead_digs : ∀ (z : Nat) (t : List Nat), lead (digs z ++ t) + 1 = (digs z).length := by
  intro z
  induction z using Nat.strongRecOn with
  | _ z ih =>
    intro t
    by_cases h : z < 128
    · rw [digs_lo h]
      show lead (z :: t) + 1 = 1
      unfold lead
      rw [if_neg (by omega)]
    · rw [digs_hi (by omega)]
      show lead ((z % 128 + 128) :: (digs (z / 128) ++ t)) + 1 = _
      unfold lead
      rw [if_pos (by omega), ih (z / 128) (by omega) t, List.length_cons]
theorem digs_len : ∀ (k z : Nat), z < 2 ^ (7 * (k + 1)) → (digs z).length ≤ k + 1
  | 0, z, h => by rw [digs_lo (by simpa using h)]; simp
  | k + 1, z, h => by
    by_cases hz : z < 128
    · rw [digs_lo hz]; simp
    · rw [digs_hi (by omega), List.length_cons]
      have e : 7 * (k + 1 + 1) = 7 * (k + 1) + 7 := by omega
      rw [e, Nat.pow_add] at h
      have := digs_len k (z / 128) (by
        apply Nat.div_lt_of_lt_mul
        have e : (2 : Nat) ^ 7 = 128 := rfl
        rw [e] at h
        omega)
      omega
theorem digs_mono : ∀ (x y : Nat), x ≤ y → (digs x).length ≤ (digs y).length := by
  intro x
  induction x using Nat.strongRecOn with
  | _ x ih =>
    intro y h
    by_cases hx : x < 128
    · rw [digs_lo hx]; exact digs_ne y
    · rw [digs_hi (z := x) (by omega), digs_hi (z := y) (by omega), List.length_cons, List.length_cons]
      have := ih (x / 128) (by omega) (y / 128) (by omega)
      omega
theorem digs_one (z : Nat) : (digs z).length = 1 ↔ z < 128 := by
  constructor
  · intro h
    by_cases hz : z < 128
    · exact hz
    · rw [digs_hi (by omega), List.length_cons] at h
      have := digs_ne (z / 128)
      omega
  · intro h; rw [digs_lo h]; rfl
/-- The last digit of a number of more than one digit is not zero. -/
theorem digs_last : ∀ (z : Nat), 2 ≤ (digs z).length → (digs z).getD ((digs z).length - 1) 0 ≠ 0 := by
  intro z
  induction z using Nat.strongRecOn with
  | _ z ih =>
    intro h
    by_cases hz : z < 128
    · rw [digs_lo hz] at h; simp at h
    · rw [digs_hi (by omega)] at h ⊢
      simp only [List.length_cons, Nat.add_sub_cancel] at h ⊢
      by_cases h2 : 2 ≤ (digs (z / 128)).length
      · have := ih (z / 128) (by omega) h2
        obtain ⟨m, hm⟩ : ∃ m, (digs (z / 128)).length = m + 1 := ⟨(digs (z / 128)).length - 1, by omega⟩
        rw [hm] at this ⊢
        simpa using this
      · have h1 : (digs (z / 128)).length = 1 := by omega
        rw [h1]
        have := (digs_one _).1 h1
        rw [digs_lo this]
        simp; omega
theorem digs_getD_lt (z : Nat) (h : z < 18446744073709551616) (h2 : (digs z).length = 10) : (digs z).getD 9 0 ≤ 1 := by
  have hv := val_digs z
  obtain ⟨l, x, e⟩ : ∃ l x, digs z = l ++ [x] := ⟨(digs z).dropLast, (digs z).getLast (by intro e; rw [e] at h2; simp at h2), (List.dropLast_concat_getLast _).symm⟩
  have hl : l.length = 9 := by rw [e] at h2; simpa using h2
  rw [e, val_snoc, hl] at hv
  have hx : x < 128 := by
    have h3 := lead_digs z []
    rw [List.append_nil, h2] at h3
    have h4 := lead_end (digs z) (by omega)
    rw [show lead (digs z) = 9 by omega, e] at h4
    simpa [hl, List.getD_eq_getElem?_getD] using h4
  rw [e]
  have e2 : (2 : Nat) ^ (7 * 9) = 9223372036854775808 := by decide
  rw [e2] at hv
  have : (l ++ [x]).getD 9 0 = x := by simp [List.getD_eq_getElem?_getD, hl]
  rw [this]
  omega
/-- Digits as they must be come from their value. -/
theorem digs_val : ∀ (l : List Nat) (x : Nat), (∀ y ∈ l, 128 ≤ y ∧ y < 256) → x < 128 → (l ≠ [] → x ≠ 0) → digs (val (l ++ [x])) = l ++ [x]
  | [], x, _, hx, _ => by
    simp only [List.nil_append, val]
    rw [digs_lo (by omega)]
    congr 1; omega
  | y :: ys, x, hl, hx, h0 => by
    have hy := hl y (by simp)
    have hpos : 0 < val (ys ++ [x]) := by
      rw [val_snoc]
      have := h0 (by simp)
      have h2 : 0 < 2 ^ (7 * ys.length) := Nat.pos_of_ne_zero (by simp)
      have : 0 < x % 128 * 2 ^ (7 * ys.length) := Nat.mul_pos (by omega) h2
      omega
    have ih := digs_val ys x (fun z hz => hl z (by simp [hz])) hx (fun _ => h0 (by simp))
    simp only [List.cons_append, val]
    rw [digs_hi (by omega), show (y % 128 + 128 * val (ys ++ [x])) / 128 = val (ys ++ [x]) by omega, ih]
    congr 1
    omega
/-- What GetInt answers: the number, how many bytes it has, and the error (0: none, 2: encoding, 3: truncated; filled in by the seat's numbers). -/
def getI (enc trunc : Nat) (l : List Nat) : Int × Nat × Nat :=
  if 10 ≤ lead l then (0, 0, enc)
  else if lead l = l.length then (0, 0, trunc)
  else if (lead l = 9 ∧ 1 < l.getD (lead l) 0) ∨ (0 < lead l ∧ l.getD (lead l) 0 = 0) then (0, 0, enc)
  else (unfoldZ (val (l.take (lead l + 1))), lead l + 1, 0)
def enc (n : Int) : List Nat := digs (foldZ n)
theorem enc_len (n : Int) (h1 : -9223372036854775808 ≤ n) (h2 : n ≤ 9223372036854775807) : 1 ≤ (enc n).length ∧ (enc n).length ≤ 10 :=
  ⟨digs_ne _, digs_len 9 _ (Nat.lt_trans (fold_lt n h1 h2) (by decide))⟩
theorem getD_append_left {l t : List Nat} {k : Nat} (h : k < l.length) : (l ++ t).getD k 0 = l.getD k 0 := by
  simp [List.getD_eq_getElem?_getD, List.getElem?_append_left h]
theorem getI_enc (e t : Nat) (n : Int) (l : List Nat) (h1 : -9223372036854775808 ≤ n) (h2 : n ≤ 9223372036854775807) : getI e t (enc n ++ l) = (n, (enc n).length, 0) := by
  obtain ⟨k1, k2⟩ := enc_len n h1 h2
  have hl := lead_digs (foldZ n) l
  unfold enc at k1 k2 ⊢
  unfold getI
  have hlead : lead (digs (foldZ n) ++ l) = (digs (foldZ n)).length - 1 := by omega
  rw [hlead, getD_append_left (by omega), if_neg (by omega), if_neg (by rw [List.length_append]; omega), if_neg, show (digs (foldZ n)).length - 1 + 1 = (digs (foldZ n)).length by omega]
  · rw [List.take_left, val_digs, unfold_fold]
  · rintro (⟨a, b⟩ | ⟨a, b⟩)
    · rw [a] at b
      have := digs_getD_lt _ (fold_lt n h1 h2) (by omega)
      omega
    · exact digs_last _ (by omega) b
theorem getD_take {l : List Nat} {k i : Nat} (h : k < i) : (l.take i).getD k 0 = l.getD k 0 := by
  simp [List.getD_eq_getElem?_getD, h]
/-- A proper prefix of an encoding is cut short. -/
theorem getI_cut (e t : Nat) (n : Int) (i : Nat) (h1 : -9223372036854775808 ≤ n) (h2 : n ≤ 9223372036854775807) (hi : i < (enc n).length) : getI e t ((enc n).take i) = (0, 0, t) := by
  obtain ⟨k1, k2⟩ := enc_len n h1 h2
  have hl := lead_digs (foldZ n) []
  rw [List.append_nil] at hl
  have h3 : i ≤ lead ((enc n).take i) := lead_ge _ _ fun j hj => by
    rw [getD_take hj]
    exact lead_at _ _ (by unfold enc at hi; show j < lead (digs (foldZ n)); omega)
  have h4 := lead_le ((enc n).take i)
  rw [List.length_take] at h4
  unfold getI
  rw [if_neg (by omega), if_pos (by rw [List.length_take]; omega)]
/-- What is decoded has exactly the bytes of its encoding. -/
theorem getI_only (e t : Nat) (he : e ≠ 0) (ht : t ≠ 0) (l : List Nat) (hb : ∀ x ∈ l, x < 256) (h : (getI e t l).2.2 = 0) :
    (getI e t l).2.1 ≤ l.length ∧ enc (getI e t l).1 = l.take (getI e t l).2.1 ∧ -9223372036854775808 ≤ (getI e t l).1 ∧ (getI e t l).1 ≤ 9223372036854775807 ∧ 1 ≤ (getI e t l).2.1 := by
  unfold getI at h ⊢
  split at h
  · exact absurd h he
  · split at h
    · exact absurd h ht
    · split at h
      · exact absurd h he
      · rename_i h1 h2 h3
        have hle := lead_le l
        have hlt : lead l < l.length := by omega
        have hend := lead_end l hlt
        rw [if_neg h1, if_neg h2, if_neg h3]
        have e1 : l.take (lead l + 1) = l.take (lead l) ++ [l.getD (lead l) 0] := by
          rw [List.take_succ_eq_append_getElem hlt]
          simp [List.getD_eq_getElem?_getD, List.getElem?_eq_getElem hlt]
        have hd := digs_val (l.take (lead l)) (l.getD (lead l) 0) (fun y hy => by
          obtain ⟨k, hk, rfl⟩ := List.getElem_of_mem hy
          have hk' : k < lead l := by rw [List.length_take] at hk; omega
          have := lead_at l k hk'
          rw [List.getElem_take]
          have e2 : l.getD k 0 = l[k] := by simp [List.getD_eq_getElem?_getD, List.getElem?_eq_getElem (show k < l.length by omega)]
          rw [e2] at this
          exact ⟨this, hb _ (List.getElem_mem _)⟩) hend (fun hne h0 => h3 (Or.inr ⟨by
            rcases Nat.eq_zero_or_pos (lead l) with z | z
            · rw [z] at hne; simp at hne
            · exact z, h0⟩))
        have hv : val (l.take (lead l + 1)) < 18446744073709551616 := by
          rw [e1, val_snoc]
          have hvl := val_lt (l.take (lead l))
          have hlen : (l.take (lead l)).length = lead l := by rw [List.length_take]; omega
          rw [hlen] at hvl ⊢
          by_cases h9 : lead l = 9
          · have hx : l.getD (lead l) 0 ≤ 1 := by
              by_cases hx : 1 < l.getD (lead l) 0
              · exact absurd (Or.inl ⟨h9, hx⟩) h3
              · omega
            rw [h9] at hvl hx ⊢
            have e9 : (2 : Nat) ^ (7 * 9) = 9223372036854775808 := by decide
            rw [e9] at hvl ⊢
            have : l.getD 9 0 % 128 * 9223372036854775808 ≤ 1 * 9223372036854775808 := Nat.mul_le_mul_right _ (by omega)
            omega
          · have hvl2 := val_lt (l.take (lead l) ++ [l.getD (lead l) 0])
            rw [val_snoc, hlen, List.length_append, hlen] at hvl2
            have : (2 : Nat) ^ (7 * (lead l + 1)) ≤ 2 ^ 63 := Nat.pow_le_pow_right (by omega) (by omega)
            have e63 : (2 : Nat) ^ 63 = 9223372036854775808 := by decide
            rw [e63] at this
            simp only [List.length_singleton] at hvl2
            omega
        obtain ⟨b1, b2⟩ := unfold_bd _ hv
        refine ⟨by show lead l + 1 ≤ _; omega, ?_, b1, b2, by show 1 ≤ lead l + 1; omega⟩
        show enc (unfoldZ (val (l.take (lead l + 1)))) = l.take (lead l + 1)
        unfold enc
        rw [fold_unfold, e1, hd]
theorem xor_lo (x : Nat) (h : x < 18446744073709551616) : bits .xor .u64 (x : Int) 0 = x := by
  have := bits_xor_u64_nat x 0 h (by decide)
  simpa using this
theorem xor_hi (x : Nat) (h : x < 18446744073709551616) : bits .xor .u64 (x : Int) 18446744073709551615 = 18446744073709551615 - (x : Int) := by
  have := bits_xor_u64_nat x (2 ^ 64 - 1) h (by decide)
  rw [Nat.xor_comm, Lib.xor_ones64 x (by omega)] at this
  have e : ((2 ^ 64 - 1 : Nat) : Int) = 18446744073709551615 := by decide
  rw [e] at this
  rw [this]; omega
theorem fold_bits (n : Int) (h1 : -9223372036854775808 ≤ n) (h2 : n ≤ 9223372036854775807) : bits .xor .u64 (IntKind.u64.wrap (IntKind.u64.wrap n * 2)) (IntKind.u64.wrap (n / 9223372036854775808)) = (foldZ n : Nat) := by
  rw [IntKind.wrap_u64, IntKind.wrap_u64, IntKind.wrap_u64]
  unfold foldZ
  split
  · have e : n % 18446744073709551616 * 2 % 18446744073709551616 = ((2 * n + 18446744073709551616).toNat : Nat) := by omega
    rw [show n / 9223372036854775808 % 18446744073709551616 = 18446744073709551615 by omega, e, xor_hi _ (by omega)]
    omega
  · have e : n % 18446744073709551616 * 2 % 18446744073709551616 = ((2 * n).toNat : Nat) := by omega
    rw [show n / 9223372036854775808 % 18446744073709551616 = 0 by omega, e, xor_lo _ (by omega)]
theorem fold_any (n : Int) (w : World) (h1 : -9223372036854775808 ≤ n) (h2 : n ≤ 9223372036854775807) :
    Calls Tryd.prog 58 #[.int .i64 n] w fun e w' => e = .returned (.int .u64 (foldZ n : Nat)) ∧ w = w' := by
  go_enter Tryd.func58, Tryd.ntmps58
  go_wp2
  go_ret
  exact ⟨ret_int (fold_bits n h1 h2), rfl⟩
theorem lo_byte (z : Nat) (h : z < 128) : Value.int .u8 (IntKind.u8.wrap (z : Int)) = bv z := by
  unfold bv
  rw [IntKind.wrap_u8']
  congr 1
  omega
theorem or_hi (z : Nat) : Value.int .u8 (bits .or .u8 (IntKind.u8.wrap (z : Int)) 128) = bv (z % 128 + 128) := by
  have h : IntKind.u8.wrap (z : Int) = ((z % 256 : Nat) : Int) := by rw [IntKind.wrap_u8']; omega
  have h2 := u8_or_nat (z % 256) 128 (by omega) (by omega)
  have h3 : z % 256 ||| 128 = z % 128 + 128 := by
    rcases Nat.lt_or_ge (z % 256) 128 with h | h
    · rw [Nat.or_comm, nat_join 7 128 (z % 256) (by decide) (by simpa using h)]; omega
    · have : z % 256 = 128 + z % 128 := by omega
      rw [this, ← nat_join 7 128 (z % 128) (by decide) (by omega), Nat.or_assoc, Nat.or_comm (z % 128), ← Nat.or_assoc, Nat.or_self, nat_join 7 128 (z % 128) (by decide) (by omega)]
      omega
  rw [h]
  unfold bv
  rw [← h3]
  exact congrArg _ h2
set_option maxRecDepth 100000 in
set_option maxHeartbeats 1000000 in
theorem appendInt_any (n : Int) (B : Nat) (v : Value) (l : List Nat) (w : World) (h1 : -9223372036854775808 ≤ n) (h2 : n ≤ 9223372036854775807) (hB : B ≤ w.heap.size) (hown : OwnB w B v l) (hl : l.length ≤ 1000000) :
    Calls Tryd.prog 56 #[v, .int .i64 n] w (Gives B w (l ++ enc n)) := by
  obtain ⟨i0, hi, hz0, hz1, hz2⟩ := info_parts infoB
  have HO := Lib.hid hown; clear hown
  have HF := Lib.hid (fold_lt n h1 h2)
  go_enter Tryd.func56, Tryd.ntmps56
  go_wp2_with fail
  refine (fold_any _ _ (by omega) (by omega)).mono ?_
  rintro e w1 ⟨rfl, rfl⟩
  obtain ⟨z0, hz⟩ : ∃ z, foldZ n = z := ⟨_, rfl⟩
  rw [hz] at HF ⊢
  have HZ := Lib.hid hz; clear hz
  go_wp2
  go_loopw [0, 5] (fun u0 u5 wr => ∃ (z : Nat) (pre : List Nat), u5 = .int .u64 (z : Nat) ∧ Hid (z < 18446744073709551616) ∧ Hid (pre ++ digs z = digs z0) ∧ Hid (OwnB wr B u0 (l ++ pre)) ∧ Hid (pre.length ≤ 10) ∧ Hid (Below B w wr)) (fun u0 u5 _ => (intOf u5).toNat)
  case atStart => exact ⟨z0, [], rfl, HF, rfl, Lib.hid (by rw [List.append_nil]; exact HO.out), Lib.hid (Nat.zero_le _), Below.refl _ _⟩
  case round =>
    obtain ⟨z, pre, rfl, hzl, hpre, how, hpl, hbe⟩ := hrel
    by_cases hz : 128 ≤ z
    · go_wp2_with (at_builtin; refine wpApp rfl _ _ rfl B _ _ rfl how.out (z % 128 + 128) _ ?hy rfl ?hlen ?hBB ?_)
      case hy => exact or_hi z
      case hlen => have := hpl.out; rw [List.length_append]; omega
      case hBB => exact Nat.le_trans hB hbe.out.size
      intro v' w2 hown' hb2
      have HO' := Lib.hid hown'
      have HB2 := Lib.hid (hbe.out.trans hb2)
      clear hown' hb2
      go_wp2
      go_roundw
      case rel => 
        have hp := hpre.out
        rw [digs_hi hz] at hp
        exact ⟨z / 128, pre ++ [z % 128 + 128], by go_num, Lib.hid (by have := hzl.out; omega), Lib.hid (by rw [List.append_assoc]; exact hp), HO', Lib.hid (by have h3 := congrArg List.length hp; have h4 := digs_len 9 z0 (Nat.lt_trans HF.out (by decide)); rw [← h3, List.length_append, List.length_cons] at h4; have h5 := digs_ne (z / 128); rw [List.length_append, List.length_singleton]; omega), HB2⟩
      case measure => simp [intOf]; omega
    · go_wp2_with (at_builtin; refine wpApp rfl _ _ rfl B _ _ rfl how.out z _ ?hy rfl ?hlen ?hBB ?_)
      case hy => rfl
      case hlen => have := hpl.out; rw [List.length_append]; omega
      case hBB => exact Nat.le_trans hB hbe.out.size
      intro v' w2 hown' hb2
      have HO' := Lib.hid hown'
      have HB2 := Lib.hid (hbe.out.trans hb2)
      clear hown' hb2
      go_wp2
      go_ret
      have hp := hpre.out
      rw [digs_lo (by omega)] at hp
      refine ⟨_, rfl, ?_, HB2.out⟩
      show OwnB _ _ _ (l ++ digs (foldZ n))
      rw [HZ.out, ← hp]
      exact HO'.out
theorem int_any (n : Int) (w : World) (h1 : -9223372036854775808 ≤ n) (h2 : n ≤ 9223372036854775807) :
    Calls Tryd.prog 51 #[.int .i64 n] w (Gives w.heap.size w (enc n)) := by
  go_enter Tryd.func51, Tryd.ntmps51
  go_wp2_with fail
  refine (appendInt_any n w.heap.size _ [] w h1 h2 (Nat.le_refl _) (OwnB.nil _ _) (by simp)).mono ?_
  rintro e w1 ⟨v, rfl, hv, hb⟩
  go_wp2
  go_ret
  exact ⟨_, rfl, hv, hb⟩
theorem z_neg {n : Int} (h : n < 0) : (-1 - n) * 2 + 1 = (foldZ n : Nat) := by unfold foldZ; rw [if_pos h]; omega
theorem z_pos {n : Int} (h : 0 ≤ n) : n * 2 = (foldZ n : Nat) := by unfold foldZ; rw [if_neg (by omega)]; omega
set_option maxRecDepth 100000 in
set_option maxHeartbeats 1000000 in
theorem intref_any (n : Int) (w : World) (h1 : -9223372036854775808 ≤ n) (h2 : n ≤ 9223372036854775807) :
    Calls Tryd.prog 57 #[.int .i64 n] w (Gives w.heap.size w (enc n)) := by
  have HF := Lib.hid (fold_lt n h1 h2)
  by_cases h0 : n < 0
  all_goals
    go_enter Tryd.func57, Tryd.ntmps57
    go_wp2
    try rw [z_neg h0]
    try rw [z_pos h0]
    obtain ⟨z0, hz⟩ : ∃ z, foldZ n = z := ⟨_, rfl⟩
    rw [hz] at HF ⊢
    have HZ := Lib.hid hz; clear hz
    go_loopw [3, 4] (fun u3 u4 wr => ∃ (z : Nat) (pre : List Nat), u3 = .int .u64 (z : Nat) ∧ Hid (z < 18446744073709551616) ∧ Hid (pre ++ digs z = digs z0) ∧ Hid (OwnB wr w.heap.size u4 pre) ∧ Hid (pre.length ≤ 10) ∧ Hid (Below w.heap.size w wr)) (fun u3 u4 _ => (intOf u3).toNat)
    case atStart => exact ⟨z0, [], rfl, HF, rfl, OwnB.nil _ _, Lib.hid (Nat.zero_le _), Below.refl _ _⟩
    case round =>
      obtain ⟨z, pre, rfl, hzl, hpre, how, hpl, hbe⟩ := hrel
      by_cases hz : 128 ≤ z
      · have wz : IntKind.u64.wrap ((z : Int) / 128) = (z : Int) / 128 := by have := hzl.out; rw [IntKind.wrap_u64]; omega
        go_wp2_with (at_builtin; refine wpApp rfl _ _ rfl w.heap.size _ _ rfl how.out (z % 128 + 128) _ ?hy rfl ?hlen ?hBB ?_)
        case hy => rfl
        case hlen => have := hpl.out; omega
        case hBB => exact hbe.out.size
        intro v' w2 hown' hb2
        have HO' := Lib.hid hown'
        have HB2 := Lib.hid (hbe.out.trans hb2)
        clear hown' hb2
        go_wp2
        go_roundw
        case rel => 
          have hp := hpre.out
          rw [digs_hi hz] at hp
          exact ⟨z / 128, pre ++ [z % 128 + 128], by go_num, Lib.hid (by have := hzl.out; omega), Lib.hid (by rw [List.append_assoc]; exact hp), HO', Lib.hid (by have h3 := congrArg List.length hp; have h4 := digs_len 9 z0 (Nat.lt_trans HF.out (by decide)); rw [← h3, List.length_append, List.length_cons] at h4; have h5 := digs_ne (z / 128); rw [List.length_append, List.length_singleton]; omega), HB2⟩
        case measure => simp [intOf]; omega
      · go_wp2_with (at_builtin; refine wpApp rfl _ _ rfl w.heap.size _ _ rfl how.out z _ ?hy rfl ?hlen ?hBB ?_)
        case hy => rfl
        case hlen => have := hpl.out; omega
        case hBB => exact hbe.out.size
        intro v' w2 hown' hb2
        have HO' := Lib.hid hown'
        have HB2 := Lib.hid (hbe.out.trans hb2)
        clear hown' hb2
        go_wp2
        go_ret
        have hp := hpre.out
        rw [digs_lo (by omega)] at hp
        refine ⟨_, rfl, ?_, HB2.out⟩
        show OwnB _ _ _ (digs (foldZ n))
        rw [HZ.out, ← hp]
        exact HO'.out
end Wi
end Go.Proofs.YtjeipkoomefekaaDoor
