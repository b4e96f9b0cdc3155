import Derived.Test.YtcgdhankllphgaaRSP
import Derived.Test.YtcgdhankllphgaaRFO
import Derived.Test.YtcgdhankllphgaaRDR
import Derived.Test.YtcgdhankllphgaaRDO
namespace Go.Proofs.Ytcgdhankllphgaa
set_option linter.unusedVariables false
set_option linter.unusedSimpArgs false
set_option linter.unusedSectionVars false
open Go.RowKit
def sB1 : List Rw := [(3, 1, 6, 0)]
def sB2 : List Rw := [(3, 1, 6, 0), (3, 2, 4, 0)]
def sB3 : List Rw := [(3, 1, 6, 3), (3, 2, 4, 0)]
def sB4 : List Rw := [(3, 1, 6, 3), (3, 2, 7, 0)]
def sP1 : List Rw := [(3, 6, 0, 0)]
def sP2 : List Rw := [(3, 6, 1, 0)]
def sP3 : List Rw := [(3, 6, 1, 3)]
theorem rwa_lt {W : World} {a : Option Addr} {l : List Rw} (h : RwA W a l) (hl : 0 < l.length) : ∀ p, a = some p → p.block < W.heap.size := by
  intro p hp
  obtain ⟨b, off, e, h1⟩ := h 0 _ (List.getElem?_eq_getElem hl)
  rw [hp] at e
  injection e with e
  subst e
  have h2 := h1 0 _ (show (encR l[0])[0]? = some (.int .i64 (l[0]).1) from rfl)
  rcases Nat.lt_or_ge b W.heap.size with h | h
  · exact h
  · simp [World.cell?, Array.getElem?_eq_none h] at h2
theorem sa_d1 (a : Option Addr) (c : Nat) (X : World) (h : RwA X a ([] : List Rw)) : Calls Try.prog 10 #[.agg #[.int .i64 10, .int .i64 1000, .slice a 0 c], .int .i64 3, .int .i64 1, .int .i64 6] X fun e w' => (∃ a' c', e = .returned (.tuple #[.agg #[.int .i64 10, .int .i64 1000, .slice a' sB1.length c'], .int .i64 0]) ∧ RwA w' a' sB1 ∧ ∀ p, a' = some p → X.heap.size ≤ p.block) ∧ Below X.heap.size X w' := by
  have k := deal_ok 10 1000 a c [] 3 1 6 X h (by decide) (by decide) (by decide) (by decide) (by decide)
  rw [show dealL [] 3 1 6 = sB1 from by decide] at k
  exact k
theorem sa_d2 (a : Option Addr) (c : Nat) (X : World) (h : RwA X a sB1) : Calls Try.prog 10 #[.agg #[.int .i64 10, .int .i64 1000, .slice a sB1.length c], .int .i64 3, .int .i64 2, .int .i64 4] X fun e w' => (∃ a' c', e = .returned (.tuple #[.agg #[.int .i64 10, .int .i64 1000, .slice a' sB2.length c'], .int .i64 0]) ∧ RwA w' a' sB2 ∧ ∀ p, a' = some p → X.heap.size ≤ p.block) ∧ Below X.heap.size X w' := by
  have k := deal_ok 10 1000 a c sB1 3 2 4 X h (by decide) (by decide) (by decide) (by decide) (by decide)
  rw [show dealL sB1 3 2 4 = sB2 from by decide] at k
  exact k
theorem sa_d3 (a : Option Addr) (c : Nat) (X : World) (h : RwA X a sB3) : Calls Try.prog 10 #[.agg #[.int .i64 10, .int .i64 1000, .slice a sB3.length c], .int .i64 3, .int .i64 2, .int .i64 3] X fun e w' => (∃ a' c', e = .returned (.tuple #[.agg #[.int .i64 10, .int .i64 1000, .slice a' sB4.length c'], .int .i64 0]) ∧ RwA w' a' sB4 ∧ ∀ p, a' = some p → X.heap.size ≤ p.block) ∧ Below X.heap.size X w' := by
  have k := deal_ok 10 1000 a c sB3 3 2 3 X h (by decide) (by decide) (by decide) (by decide) (by decide)
  rw [show dealL sB3 3 2 3 = sB4 from by decide] at k
  exact k
theorem sa_rt (a : Option Addr) (c : Nat) (X : World) (h : RwA X a sB2) : Calls Try.prog 11 #[.agg #[.int .i64 10, .int .i64 1000, .slice a sB2.length c], .int .i64 3, .int .i64 1, .int .i64 3] X fun e w' => (∃ a' c', e = .returned (.tuple #[.agg #[.int .i64 10, .int .i64 1000, .slice a' sB3.length c'], .int .i64 0]) ∧ RwA w' a' sB3 ∧ ∀ p, a' = some p → X.heap.size ≤ p.block) ∧ Below X.heap.size X w' := by
  have k := ret_ok 10 1000 a c sB2 3 1 3 X h (by decide) (by decide) (by decide) (by decide)
  rw [show retL sB2 3 1 3 = sB3 from by decide] at k
  exact k
theorem sa_f1 (a : Option Addr) (c : Nat) (X : World) (h : RwA X a sB4) : Calls Try.prog 12 #[.agg #[.int .i64 10, .int .i64 1000, .slice a sB4.length c], per 3999 4005] X fun e w' => (∃ a' c', e = .returned (.tuple #[.agg #[.int .i64 10, .int .i64 1000, .slice a' sB4.length c'], .int .i64 0]) ∧ RwA w' a' sB4 ∧ ∀ p, a' = some p → X.heap.size ≤ p.block) ∧ Below X.heap.size X w' := by
  have k := forget_ok 10 1000 a c sB4 3999 4005 X h (by decide) (by decide) (by decide)
  rw [show forgetL sB4 1000 3999 = sB4 from by decide] at k
  exact k
theorem sa_f2 (a : Option Addr) (c : Nat) (X : World) (h : RwA X a sB4) : Calls Try.prog 12 #[.agg #[.int .i64 10, .int .i64 1000, .slice a sB4.length c], per 4000 4005] X fun e w' => (∃ a' c', e = .returned (.tuple #[.agg #[.int .i64 10, .int .i64 1000, .slice a' 0 c'], .int .i64 0]) ∧ RwA w' a' ([] : List Rw) ∧ ∀ p, a' = some p → X.heap.size ≤ p.block) ∧ Below X.heap.size X w' := by
  have k := forget_ok 10 1000 a c sB4 4000 4005 X h (by decide) (by decide) (by decide)
  rw [show forgetL sB4 1000 4000 = ([] : List Rw) from by decide] at k
  exact k
theorem sa_rc (a : Option Addr) (c : Nat) (X : World) (h : RwA X a ([] : List Rw)) : Calls Try.prog 25 #[.agg #[.int .i64 1000, .slice a 0 c], .int .i64 3, .int .i64 6] X fun e w' => (∃ a' c', e = .returned (.tuple #[.agg #[.int .i64 1000, .slice a' sP1.length c'], .int .i64 0]) ∧ RwA w' a' sP1 ∧ ∀ p, a' = some p → X.heap.size ≤ p.block) ∧ Below X.heap.size X w' := by
  have k := recv_ok 1000 a c [] 3 6 X h (by decide) (by decide) (by decide) (by decide)
  rw [show recvL [] 3 6 = sP1 from by decide] at k
  exact k
theorem sa_sp (a : Option Addr) (c : Nat) (X : World) (h : RwA X a sP1) : Calls Try.prog 26 #[.agg #[.int .i64 1000, .slice a sP1.length c], per 3000 3010] X fun e w' => (∃ a' c', e = .returned (.tuple #[.agg #[.int .i64 1000, .slice a' sP2.length c'], .int .i64 0]) ∧ RwA w' a' sP2 ∧ ∀ p, a' = some p → X.heap.size ≤ p.block) ∧ Below X.heap.size X w' := by
  have k := spend_ok 1000 a c sP1 3000 3010 X h (by decide) (by decide) (by decide) (by decide)
  rw [show spendL sP1 (3000 / 1000) = sP2 from by decide] at k
  exact k
theorem sa_gv (a : Option Addr) (c : Nat) (X : World) (h : RwA X a sP2) : Calls Try.prog 27 #[.agg #[.int .i64 1000, .slice a sP2.length c], .int .i64 3, .int .i64 3] X fun e w' => (∃ a' c', e = .returned (.tuple #[.agg #[.int .i64 1000, .slice a' sP3.length c'], .int .i64 0]) ∧ RwA w' a' sP3 ∧ ∀ p, a' = some p → X.heap.size ≤ p.block) ∧ Below X.heap.size X w' := by
  have k := give_ok 1000 a c sP2 3 3 X h (by decide) (by decide) (by decide) (by decide)
  rw [show giveL sP2 3 3 = sP3 from by decide] at k
  exact k
theorem sa_dt (a : Option Addr) (c : Nat) (X : World) (h : RwA X a sB2) : Calls Try.prog 20 #[.agg #[.int .i64 10, .int .i64 1000, .slice a sB2.length c], .int .i64 3, .int .i64 1] X fun e w' => e = .returned (.int .i64 6) ∧ Below X.heap.size X w' := by
  have k := dealt_any 10 1000 a c sB2 3 1 X h (by decide)
  rw [show dealtL sB2 3 1 = 6 from by decide] at k
  exact k
theorem sa_lm (a : Option Addr) (c : Nat) (X : World) (h : RwA X a sB2) : Calls Try.prog 10 #[.agg #[.int .i64 10, .int .i64 1000, .slice a sB2.length c], .int .i64 3, .int .i64 2, .int .i64 1] X fun e w' => e = .returned (.tuple #[.agg #[.int .i64 0, .int .i64 0, .slice none 0 0], .int .i64 2]) ∧ Below X.heap.size X w' := by
  have k := deal_limit 10 1000 a c sB2 3 2 1 X h (by decide) (by decide) (by decide) (by decide) (by decide)
  exact k
theorem sa_st (a : Option Addr) (c : Nat) (X : World) (h : RwA X a sP2) : Calls Try.prog 26 #[.agg #[.int .i64 1000, .slice a sP2.length c], per 3990 4000] X fun e w' => e = .returned (.tuple #[.agg #[.int .i64 0, .slice none 0 0], .int .i64 9]) ∧ Below X.heap.size X w' := by
  have k := spend_time 1000 a c sP2 3990 4000 X h (by decide) (by decide) (by decide)
  exact k
theorem sa_bk (a : Option Addr) (c : Nat) (X : World) (h : RwA X a sP3) : Calls Try.prog 39 #[.agg #[.int .i64 1000, .slice a sP3.length c], .int .i64 3] X fun e w' => e = .returned (.int .i64 3) ∧ Below X.heap.size X w' := by
  have k := backp_any 1000 a c sP3 3 X h (by decide)
  rw [show (coinL sP3 3).2.2.2 = 3 from by decide] at k
  exact k
theorem sa_lf (a : Option Addr) (c : Nat) (X : World) (h : RwA X a sP3) : Calls Try.prog 37 #[.agg #[.int .i64 1000, .slice a sP3.length c], .int .i64 3] X fun e w' => e = .returned (.int .i64 2) ∧ Below X.heap.size X w' := by
  have k := leftp_any 1000 a c sP3 3 X h (by decide)
  rw [show leftX (coinL sP3 3) = 2 from by decide] at k
  exact k
theorem sa_o2 (a : Option Addr) (c : Nat) (X : World) (h : RwA X a sB2) : Calls Try.prog 22 #[.agg #[.int .i64 10, .int .i64 1000, .slice a sB2.length c], .int .i64 3] X fun e w' => e = .returned (.int .i64 10) ∧ Below X.heap.size X w' := by
  have k := out_any 10 1000 a c sB2 3 X h (by decide)
  rw [show outL sB2 3 = 10 from by decide] at k
  exact k
theorem sa_o3 (a : Option Addr) (c : Nat) (X : World) (h : RwA X a sB3) : Calls Try.prog 22 #[.agg #[.int .i64 10, .int .i64 1000, .slice a sB3.length c], .int .i64 3] X fun e w' => e = .returned (.int .i64 7) ∧ Below X.heap.size X w' := by
  have k := out_any 10 1000 a c sB3 3 X h (by decide)
  rw [show outL sB3 3 = 7 from by decide] at k
  exact k
theorem sa_o4 (a : Option Addr) (c : Nat) (X : World) (h : RwA X a sB4) : Calls Try.prog 22 #[.agg #[.int .i64 10, .int .i64 1000, .slice a sB4.length c], .int .i64 3] X fun e w' => e = .returned (.int .i64 10) ∧ Below X.heap.size X w' := by
  have k := out_any 10 1000 a c sB4 3 X h (by decide)
  rw [show outL sB4 3 = 10 from by decide] at k
  exact k
theorem sa_nb (X : World) : Calls Try.prog 9 #[.int .i64 10, .int .i64 1000] X fun e w' => e = .returned (.tuple #[.agg #[.int .i64 10, .int .i64 1000, .slice none 0 0], .int .i64 0]) ∧ Below X.heap.size X w' := newbank_yes 10 1000 X (by decide)
theorem sa_np (X : World) : Calls Try.prog 24 #[.int .i64 1000] X fun e w' => e = .returned (.tuple #[.agg #[.int .i64 1000, .slice none 0 0], .int .i64 0]) ∧ Below X.heap.size X w' := newpurse_yes 1000 X (by decide)
end Go.Proofs.Ytcgdhankllphgaa
