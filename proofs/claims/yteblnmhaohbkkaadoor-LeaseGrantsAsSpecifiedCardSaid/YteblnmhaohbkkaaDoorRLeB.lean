/- Program and specification side by side: each gives what the other gives. -/
import Derived.Test.YteblnmhaohbkkaaDoorRLeRg
import Derived.Test.YteblnmhaohbkkaaDoorRLMs
import Derived.Test.YteblnmhaohbkkaaDoorRSEQ
namespace Go.Proofs.YteblnmhaohbkkaaDoor
set_option linter.unusedVariables false
set_option linter.unusedSimpArgs false
namespace Le
open Go.RowKit Go.Sort
abbrev grV (la mo : Int) (a : Option Addr) (n c : Nat) : Value := .agg #[.int .i64 la, .int .i64 mo, .slice a n c]
/-- Two functions that give the same grants (arguments that hang on rows a of l). -/
def BothG (fp fr : Nat) (args : Array Value) (a : Option Addr) (l : List Gr) : Prop :=
  ∃ (la mo e : Int) (m : List Gr), m.length ≤ 1000000 ∧
    (∀ X : World, GrA X a l → Calls Tryd.prog fp args X fun r X' => (∃ a' c', r = .returned (.tuple #[grV la mo a' m.length c', .int .i64 e]) ∧ GrA X' a' m) ∧ Below X.heap.size X X') ∧
    (∀ X : World, GrA X a l → Calls Tryd.prog fr args X fun r X' => (∃ a' c', r = .returned (.agg #[.int .i64 la, .int .i64 mo, .slice a' m.length c', .int .i64 e]) ∧ GrA X' a' m) ∧ Below X.heap.size X X')
theorem both_new (mo : Int) : BothG 8 14 #[.int .i64 mo] none [] := by
  by_cases h : 1 ≤ mo ∧ mo ≤ 3600000
  · exact ⟨0, mo, 0, [], by simp, fun X _ => (new_ok mo X h).mono fun r X' ⟨he, hb⟩ => ⟨⟨none, 0, he, RowsA.nil _ _ _ _⟩, hb⟩, fun X _ => (rnew_ok mo X h).mono fun r X' ⟨he, hb⟩ => ⟨⟨none, 0, he, RowsA.nil _ _ _ _⟩, hb⟩⟩
  · exact ⟨0, 0, 1, [], by simp, fun X _ => (new_bad mo X h).mono fun r X' ⟨he, hb⟩ => ⟨⟨none, 0, he, RowsA.nil _ _ _ _⟩, hb⟩, fun X _ => (rnew_bad mo X h).mono fun r X' ⟨he, hb⟩ => ⟨⟨none, 0, he, RowsA.nil _ _ _ _⟩, hb⟩⟩
section
variable (la mo : Int) (a : Option Addr) (c : Nat) (l : List Gr) (hm : l.length ≤ 10000)
include hm
theorem both_issue : BothG 9 15 #[grV la mo a l.length c] a l := by
  by_cases ok : GsOk la mo l
  · by_cases hl : la = 1099511627776
    · exact ⟨0, 0, 2, [], by simp, fun X h => (issue_lim la mo a c l X h (by omega) ok hl).mono fun r X' ⟨he, hb⟩ => ⟨⟨none, 0, he, RowsA.nil _ _ _ _⟩, hb⟩, fun X h => (rissue_lim la mo a c l X h hm ok hl).mono fun r X' ⟨he, hb⟩ => ⟨⟨none, 0, he, RowsA.nil _ _ _ _⟩, hb⟩⟩
    · exact ⟨la + 1, mo, 0, l, by omega, fun X h => (issue_ok la mo a c l X h (by omega) ok hl).mono fun r X' ⟨⟨a', c', he, hr, _⟩, hb⟩ => ⟨⟨a', c', he, hr⟩, hb⟩, fun X h => (rissue_ok la mo a c l X h hm ok hl).mono fun r X' ⟨he, hb⟩ => ⟨⟨a, c, he, h.mono hb⟩, hb⟩⟩
  · have bad : validB la mo l = false := decide_eq_false ok
    exact ⟨0, 0, 1, [], by simp, fun X h => (issue_bad la mo a c l X h (by omega) bad).mono fun r X' ⟨he, hb⟩ => ⟨⟨none, 0, he, RowsA.nil _ _ _ _⟩, hb⟩, fun X h => (rissue_bad la mo a c l X h hm bad).mono fun r X' ⟨he, hb⟩ => ⟨⟨none, 0, he, RowsA.nil _ _ _ _⟩, hb⟩⟩
theorem both_confirm (n ep : Int) : BothG 10 16 #[grV la mo a l.length c, .int .i64 n, .int .i64 ep] a l := by
  by_cases ok : GsOk la mo l
  · by_cases hs : 0 ≤ n ∧ n < 64
    · by_cases h1 : ep < 0
      · exact ⟨0, 0, 1, [], by simp, fun X h => (confirm_ep la mo a c l n ep X h (by omega) ok hs (by omega)).mono fun r X' ⟨he, hb⟩ => ⟨⟨none, 0, he, RowsA.nil _ _ _ _⟩, hb⟩, fun X h => (rconf_neg la mo a c l n ep X h hm ok hs h1).mono fun r X' ⟨he, hb⟩ => ⟨⟨none, 0, he, RowsA.nil _ _ _ _⟩, hb⟩⟩
      by_cases h2 : la < ep
      · exact ⟨0, 0, 1, [], by simp, fun X h => (confirm_ep la mo a c l n ep X h (by omega) ok hs (by omega)).mono fun r X' ⟨he, hb⟩ => ⟨⟨none, 0, he, RowsA.nil _ _ _ _⟩, hb⟩, fun X h => (rconf_big la mo a c l n ep X h hm ok hs h1 h2).mono fun r X' ⟨he, hb⟩ => ⟨⟨none, 0, he, RowsA.nil _ _ _ _⟩, hb⟩⟩
      have hw : (withL (confR n ep l) l).length ≤ 1000000 := by
        have := (with_ok ok (x := confR n ep l) (by have := rowL_ok ok hs; unfold confR; exact ⟨hs, ⟨by have := this.2.1.1; show 0 ≤ max _ _; omega, by have := this.2.1.2; show max _ _ ≤ _; omega⟩, this.2.2⟩)).few
        omega
      by_cases h3 : ep ≤ (rowL n l).2.1
      · have e : confR n ep l = rowL n l := by
          unfold confR
          rw [show max (rowL n l).2.1 ep = (rowL n l).2.1 by omega]
          have := rowL_site n l
          exact Prod.ext this.symm rfl
        refine ⟨la, mo, 0, l, by omega, fun X h => (confirm_ok la mo a c l n ep X h (by omega) ok hs ⟨by omega, by omega⟩).mono fun r X' ⟨⟨a', c', he, hr, _⟩, hb⟩ => ⟨⟨a', c', ?_, ?_⟩, hb⟩, fun X h => (rconf_keep la mo a c l n ep X h hm ok hs h1 h2 h3).mono fun r X' ⟨he, hb⟩ => ⟨⟨a, c, he, h.mono hb⟩, hb⟩⟩
        · rw [e, with_self] at he; exact he
        · rw [e, with_self] at hr; exact hr
      · have e : confR n ep l = (n, ep, (rowL n l).2.2) := by
          unfold confR
          rw [show max (rowL n l).2.1 ep = ep by omega]
        rw [e] at hw
        refine ⟨la, mo, 0, withL (n, ep, (rowL n l).2.2) l, hw, fun X h => (confirm_ok la mo a c l n ep X h (by omega) ok hs ⟨by omega, by omega⟩).mono fun r X' ⟨⟨a', c', he, hr, _⟩, hb⟩ => ⟨⟨a', c', ?_, ?_⟩, hb⟩, fun X h => rconf_put la mo a c l n ep X h hm ok hs h1 h2 h3⟩
        · rw [e] at he; exact he
        · rw [e] at hr; exact hr
    · exact ⟨0, 0, 1, [], by simp, fun X h => (confirm_site la mo a c l n ep X h (by omega) ok hs).mono fun r X' ⟨he, hb⟩ => ⟨⟨none, 0, he, RowsA.nil _ _ _ _⟩, hb⟩, fun X h => (rconf_site la mo a c l n ep X h hm ok hs).mono fun r X' ⟨he, hb⟩ => ⟨⟨none, 0, he, RowsA.nil _ _ _ _⟩, hb⟩⟩
  · have bad : validB la mo l = false := decide_eq_false ok
    exact ⟨0, 0, 1, [], by simp, fun X h => (confirm_bad la mo a c l n ep X h (by omega) bad).mono fun r X' ⟨he, hb⟩ => ⟨⟨none, 0, he, RowsA.nil _ _ _ _⟩, hb⟩, fun X h => (rconf_bad la mo a c l n ep X h hm bad).mono fun r X' ⟨he, hb⟩ => ⟨⟨none, 0, he, RowsA.nil _ _ _ _⟩, hb⟩⟩
/-- Deadline. -/
theorem both_dead (ep : Int) : ∃ n e : Int,
    (∀ X : World, GrA X a l → Calls Tryd.prog 12 #[grV la mo a l.length c, .int .i64 ep] X fun r X' => r = .returned (.tuple #[.int .i64 n, .int .i64 e]) ∧ Below X.heap.size X X') ∧
    (∀ X : World, GrA X a l → Calls Tryd.prog 18 #[grV la mo a l.length c, .int .i64 ep] X fun r X' => r = .returned (.agg #[.int .i64 n, .int .i64 e]) ∧ Below X.heap.size X X') := by
  by_cases ok : GsOk la mo l
  · by_cases h1 : ep < 1
    · exact ⟨0, 1, fun X h => deadline_ep la mo a c l ep X h (by omega) ok (by omega), fun X h => rdead_neg la mo a c l ep X h hm ok h1⟩
    by_cases h2 : la < ep
    · exact ⟨0, 1, fun X h => deadline_ep la mo a c l ep X h (by omega) ok (by omega), fun X h => rdead_big la mo a c l ep X h hm ok h1 h2⟩
    · exact ⟨_, 0, fun X h => deadline_ok la mo a c l ep X h (by omega) ok (by omega), fun X h => rdead_ok la mo a c l ep X h hm ok h1 h2⟩
  · have bad : validB la mo l = false := decide_eq_false ok
    exact ⟨0, 1, fun X h => deadline_bad la mo a c l ep X h (by omega) bad, fun X h => rdead_bad la mo a c l ep X h hm bad⟩
/-- Waiting. -/
theorem both_wait (ep lo hi : Int) : ∃ (m : List Int) (e : Int), m.length ≤ 1000000 ∧
    (∀ X : World, GrA X a l → Calls Tryd.prog 13 #[grV la mo a l.length c, .int .i64 ep, per lo hi] X fun r X' => (∃ a' c', r = .returned (.tuple #[.slice a' m.length c', .int .i64 e]) ∧ IntsA X' a' m) ∧ Below X.heap.size X X') ∧
    (∀ X : World, GrA X a l → Calls Tryd.prog 19 #[grV la mo a l.length c, .int .i64 ep, per lo hi] X fun r X' => (∃ a' c', r = .returned (.agg #[.slice a' m.length c', .int .i64 e]) ∧ IntsA X' a' m) ∧ Below X.heap.size X X') := by
  have nil : ∀ X : World, IntsA X none [] := fun X k hk => absurd hk (by simp)
  by_cases ok : GsOk la mo l
  · by_cases h1 : ep < 1
    · exact ⟨[], 1, by simp, fun X h => (waiting_ep la mo a c l ep lo hi X h (by omega) ok (by omega)).mono fun r X' ⟨he, hb⟩ => ⟨⟨none, 0, he, nil _⟩, hb⟩, fun X h => (rwait_neg la mo a c l ep lo hi X h hm ok h1).mono fun r X' ⟨he, hb⟩ => ⟨⟨none, 0, he, nil _⟩, hb⟩⟩
    by_cases h2 : la < ep
    · exact ⟨[], 1, by simp, fun X h => (waiting_ep la mo a c l ep lo hi X h (by omega) ok (by omega)).mono fun r X' ⟨he, hb⟩ => ⟨⟨none, 0, he, nil _⟩, hb⟩, fun X h => (rwait_big la mo a c l ep lo hi X h hm ok h1 h2).mono fun r X' ⟨he, hb⟩ => ⟨⟨none, 0, he, nil _⟩, hb⟩⟩
    cases hq : perB lo hi
    · exact ⟨[], 1, by simp, fun X h => (waiting_per la mo a c l ep lo hi X h (by omega) ok (by omega) hq).mono fun r X' ⟨he, hb⟩ => ⟨⟨none, 0, he, nil _⟩, hb⟩, fun X h => (rwait_per la mo a c l ep lo hi X h hm ok h1 h2 hq).mono fun r X' ⟨he, hb⟩ => ⟨⟨none, 0, he, nil _⟩, hb⟩⟩
    · refine ⟨waitK l ep lo l.length, 0, ?_, fun X h => (waiting_ok la mo a c l ep lo hi X h (by omega) ok (by omega) hq).mono fun r X' ⟨⟨a', c', he, hr, _⟩, hb⟩ => ⟨⟨a', c', he, hr⟩, hb⟩, fun X h => rwait_ok la mo a c l ep lo hi X h hm ok h1 h2 hq⟩
      have h1 := List.length_filter_le (fun x : Gr => decide (x.2.1 < ep) && decide (lo < x.2.2)) (l.take l.length)
      have h2 := List.length_take_le l.length l
      unfold waitK
      rw [List.length_map]
      omega
  · have bad : validB la mo l = false := decide_eq_false ok
    exact ⟨[], 1, by simp, fun X h => (waiting_bad la mo a c l ep lo hi X h (by omega) bad).mono fun r X' ⟨he, hb⟩ => ⟨⟨none, 0, he, nil _⟩, hb⟩, fun X h => (rwait_bad la mo a c l ep lo hi X h hm bad).mono fun r X' ⟨he, hb⟩ => ⟨⟨none, 0, he, nil _⟩, hb⟩⟩
end
/-- Grant. -/
structure SameL (LC : Array Value) : Prop where
  big : BigR 38 LC
  eq : ∀ W : World, (binOp .eql 38 (.agg LC) (.agg LC)).run Tryd.prog W = .ok (.bool true) W
theorem same_lease (s e u r : Int) {D : List Nat} (hD : D.length = 16) : SameL (leaseC s e u r D) := ⟨big_lease hD, fun W => by
  have h := lease_self s e u r D W hD
  obtain ⟨C, hC⟩ : ∃ C, leaseC s e u r D = C := ⟨_, rfl⟩
  rw [hC] at h ⊢
  go_simp⟩
theorem same_leaseZ : SameL leaseZ := same_lease 0 0 0 0 (D := List.replicate 16 0) rfl
def BothL (args : Array Value) (a : Option Addr) (l : List Gr) : Prop :=
  ∃ (la mo e : Int) (m : List Gr) (LC : Array Value), m.length ≤ 1000000 ∧ SameL LC ∧
    (∀ X : World, GrA X a l → Hs.LaidC X → Calls Tryd.prog 11 args X fun r X' => (∃ a' c', r = .returned (.tuple #[grV la mo a' m.length c', .agg LC, .int .i64 e]) ∧ GrA X' a' m) ∧ Below X.heap.size X X') ∧
    (∀ X : World, GrA X a l → Hs.LaidK X → Calls Tryd.prog 17 args X fun r X' => (∃ a' c' C, r = .returned (.agg C) ∧ BigR 52 C ∧ C.toList = [.int .i64 la, .int .i64 mo, .slice a' m.length c'] ++ LC.toList ++ [.int .i64 e] ∧ GrA X' a' m) ∧ Below X.heap.size X X')
theorem granted_list (la mo : Int) (a : Option Addr) (n c : Nat) (s e u r : Int) (D : List Nat) : (grantedC la mo a n c s e u r D).toList = [.int .i64 la, .int .i64 mo, .slice a n c] ++ (leaseC s e u r D).toList ++ [.int .i64 0] := by
  unfold grantedC leaseC leaseL
  simp
theorem both_grant (la mo : Int) (a : Option Addr) (c : Nat) (l : List Gr) (hm : l.length ≤ 10000) (k1 k2 : Int) (k3 : ByteArray) (k4 k5 n lo hi len : Int) : BothL #[grV la mo a l.length c, .agg #[.int .i64 k1, .int .i64 k2, .string k3, .int .i64 k4, .int .i64 k5], .int .i64 n, per lo hi, .int .i64 len] a l := by
  have err : ∀ e : Int, (∀ X : World, GrA X a l → Calls Tryd.prog 11 #[grV la mo a l.length c, .agg #[.int .i64 k1, .int .i64 k2, .string k3, .int .i64 k4, .int .i64 k5], .int .i64 n, per lo hi, .int .i64 len] X fun r X' => r = .returned (.tuple #[.agg #[.int .i64 0, .int .i64 0, .slice none 0 0], .agg leaseZ, .int .i64 e]) ∧ Below X.heap.size X X') →
      (∀ X : World, GrA X a l → Calls Tryd.prog 17 #[grV la mo a l.length c, .agg #[.int .i64 k1, .int .i64 k2, .string k3, .int .i64 k4, .int .i64 k5], .int .i64 n, per lo hi, .int .i64 len] X fun r X' => r = .returned (.agg (grantedE e)) ∧ Below X.heap.size X X') →
      BothL #[grV la mo a l.length c, .agg #[.int .i64 k1, .int .i64 k2, .string k3, .int .i64 k4, .int .i64 k5], .int .i64 n, per lo hi, .int .i64 len] a l := fun e h1 h2 =>
    ⟨0, 0, e, [], leaseZ, by simp, same_leaseZ, fun X h _ => (h1 X h).mono fun r X' ⟨he, hb⟩ => ⟨⟨none, 0, he, RowsA.nil _ _ _ _⟩, hb⟩, fun X h _ => (h2 X h).mono fun r X' ⟨he, hb⟩ => ⟨⟨none, 0, _, he, big_grantedE e, rfl, RowsA.nil _ _ _ _⟩, hb⟩⟩
  by_cases ok : GsOk la mo l
  rotate_left
  · have bad : validB la mo l = false := decide_eq_false ok
    exact err 1 (fun X h => grant_valid la mo a c l k1 k2 k3 k4 k5 n lo hi len X h (by omega) bad) (fun X h => rgrant_bad la mo a c l k1 k2 k3 k4 k5 n lo hi len X h hm bad)
  by_cases hs : 0 ≤ n ∧ n < 64
  rotate_left
  · exact err 1 (fun X h => grant_site la mo a c l k1 k2 k3 k4 k5 n lo hi len X h (by omega) ok hs) (fun X h => rgrant_site la mo a c l k1 k2 k3 k4 k5 n lo hi len X h hm ok hs)
  cases hq : perB lo hi
  · exact err 1 (fun X h => grant_per la mo a c l k1 k2 k3 k4 k5 n lo hi len X h (by omega) ok hs hq) (fun X h => rgrant_per la mo a c l k1 k2 k3 k4 k5 n lo hi len X h hm ok hs hq)
  by_cases h1 : len < 1
  · exact err 1 (fun X h => grant_len la mo a c l k1 k2 k3 k4 k5 n lo hi len X h (by omega) ok hs hq (by omega)) (fun X h => rgrant_one la mo a c l k1 k2 k3 k4 k5 n lo hi len X h hm ok hs hq h1)
  by_cases h2 : mo < len
  · exact err 1 (fun X h => grant_len la mo a c l k1 k2 k3 k4 k5 n lo hi len X h (by omega) ok hs hq (by omega)) (fun X h => rgrant_mo la mo a c l k1 k2 k3 k4 k5 n lo hi len X h hm ok hs hq h1 h2)
  have hl : 1 ≤ len ∧ len ≤ mo := by omega
  cases hk : keyB (k1, k2, k3, k4, k5)
  · exact err 1 (fun X h => grant_key la mo a c l k1 k2 k3 k4 k5 n lo hi len X h (by omega) ok hs hq hl hk) (fun X h => rgrant_key la mo a c l k1 k2 k3 k4 k5 n lo hi len X h hm ok hs hq h1 h2 hk)
  by_cases h3 : k1 = 1
  rotate_left
  · exact err 1 (fun X h => grant_party la mo a c l k1 k2 k3 k4 k5 n lo hi len X h (by omega) ok hs hq hl hk h3) (fun X h => rgrant_party la mo a c l k1 k2 k3 k4 k5 n lo hi len X h hm ok hs hq h1 h2 hk h3)
  subst h3
  by_cases h4 : (rowL n l).2.1 < la
  · exact err 4 (fun X h => grant_state la mo a c l k2 k3 k4 k5 n lo hi len X h (by omega) ok hs hq hl hk h4) (fun X h => rgrant_state la mo a c l k2 k3 k4 k5 n lo hi len X h hm ok hs hq h1 h2 hk h4)
  by_cases h5 : 1099511627776 < lo + len
  · exact err 2 (fun X h => grant_lim la mo a c l k2 k3 k4 k5 n lo hi len X h (by omega) ok hs hq hl hk h4 h5) (fun X h => rgrant_lim la mo a c l k2 k3 k4 k5 n lo hi len X h hm ok hs hq h1 h2 hk h4 h5)
  have hw : (withL (grantR n (lo + len) l) l).length ≤ 1000000 := by
    have := (with_ok ok (x := grantR n (lo + len) l) (by have := rowL_ok ok hs; unfold grantR; exact ⟨hs, this.2.1, by have := this.2.2.1; show 0 ≤ max _ _; omega, by have := this.2.2.2; show max _ _ ≤ _; omega⟩)).few
    omega
  by_cases h6 : lo + len ≤ (rowL n l).2.2
  · have e : grantR n (lo + len) l = rowL n l := by
      unfold grantR
      rw [show max (rowL n l).2.2 (lo + len) = (rowL n l).2.2 by omega]
      have := rowL_site n l
      exact Prod.ext this.symm rfl
    refine ⟨la, mo, 0, l, _, by omega, same_lease n la (lo + len) k2 (sealD_len k2 k3 n la (lo + len)), fun X h k => (grant_ok la mo a c l k2 k3 k4 k5 n lo hi len X h (by omega) ok hs hq hl hk h4 h5 k).mono fun r X' ⟨⟨a', c', he, hr, _⟩, hb⟩ => ⟨⟨a', c', ?_, ?_⟩, hb⟩, fun X h k => (rgrant_keep la mo a c l k2 k3 k4 k5 n lo hi len X h hm ok hs hq h1 h2 hk h4 h5 k h6).mono fun r X' ⟨he, hb⟩ => ⟨⟨a, c, _, he, big_grantedC _ _ _ _ _ _ _ _ _ (sealD_len _ _ _ _ _), granted_list _ _ _ _ _ _ _ _ _ _, h.mono hb⟩, hb⟩⟩
    · rw [e, with_self] at he; exact he
    · rw [e, with_self] at hr; exact hr
  · have e : grantR n (lo + len) l = (n, (rowL n l).2.1, lo + len) := by
      unfold grantR
      rw [show max (rowL n l).2.2 (lo + len) = lo + len by omega]
    rw [e] at hw
    refine ⟨la, mo, 0, withL (n, (rowL n l).2.1, lo + len) l, _, hw, same_lease n la (lo + len) k2 (sealD_len k2 k3 n la (lo + len)), fun X h k => (grant_ok la mo a c l k2 k3 k4 k5 n lo hi len X h (by omega) ok hs hq hl hk h4 h5 k).mono fun r X' ⟨⟨a', c', he, hr, _⟩, hb⟩ => ⟨⟨a', c', ?_, ?_⟩, hb⟩, fun X h k => (rgrant_put la mo a c l k2 k3 k4 k5 n lo hi len X h hm ok hs hq h1 h2 hk h4 h5 k h6).mono fun r X' ⟨⟨a', c', he, hr⟩, hb⟩ => ⟨⟨a', c', _, he, big_grantedC _ _ _ _ _ _ _ _ _ (sealD_len _ _ _ _ _), granted_list _ _ _ _ _ _ _ _ _ _, hr⟩, hb⟩⟩
    · rw [e] at he; exact he
    · rw [e] at hr; exact hr
end Le
end Go.Proofs.YteblnmhaohbkkaaDoor
