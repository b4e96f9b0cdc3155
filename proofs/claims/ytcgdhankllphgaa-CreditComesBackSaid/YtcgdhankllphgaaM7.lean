/- Mathematics of the law that credits come back. -/
import Derived.Test.YtcgdhankllphgaaMB
import Derived.Test.YtcgdhankllphgaaGV
import Derived.Test.YtcgdhankllphgaaNG
import Derived.Test.YtcgdhankllphgaaDO
import Derived.Test.YtcgdhankllphgaaRT
namespace Go.Proofs.Ytcgdhankllphgaa
set_option linter.unusedVariables false
set_option linter.unusedSimpArgs false
open Go.RowKit
theorem recv_one {wi n : Int} (hn : 1 ≤ n) : recvL [] wi n = [(wi, n, 0, 0)] := by
  have e : coinL [] wi = (wi, 0, 0, 0) := rfl
  unfold recvL
  rw [e]
  unfold recvX
  rw [if_pos (by simp only; omega)]
  unfold withL
  rw [if_neg (by simp [hasC, posC]), if_neg (by simp; omega)]
  rfl
theorem coin_one (wi x y z : Int) : hasC (cW wi) [(wi, x, y, z)] = true ∧ coinL [(wi, x, y, z)] wi = (wi, x, y, z) := by
  have e : posC (cW wi) [(wi, x, y, z)] = 0 := posC_is _ _ 0 (by simp) (by intro j hj; omega) (by intro _; simp [cW_neg])
  have h : hasC (cW wi) [(wi, x, y, z)] = true := by rw [hasC_iff, e]; exact ⟨by simp, cW_zero.2 rfl⟩
  refine ⟨h, ?_⟩
  unfold coinL
  rw [if_pos h, e]
  rfl
theorem give_one (wi n : Int) : giveL [(wi, n, 0, 0)] wi n = [(wi, n, 0, n)] := by
  have e : posC (cW wi) [(wi, n, 0, 0)] = 0 := posC_is _ _ 0 (by simp) (by intro j hj; omega) (by intro _; simp [cW_neg])
  unfold giveL
  rw [(coin_one wi n 0 0).2]
  unfold withL
  simp only
  rw [if_pos (coin_one wi n 0 0).1, e]
  simp
theorem okp_one {len wi x y z : Int} (h : OkP len []) (p1 : winOk wi) (h1 : 0 ≤ x ∧ x ≤ 1099511627776) (h2 : 0 ≤ y ∧ y ≤ x) (h3 : 0 ≤ z ∧ z ≤ x - y) : OkP len [(wi, x, y, z)] := by
  refine ⟨⟨h.head.1, by simp⟩, fun k hk => ?_⟩
  obtain rfl : k = 0 := by simp at hk; omega
  have := p1
  unfold winOk at this
  exact ⟨p1, by simp only [prevW, List.getD_cons_zero]; omega, h1, h2, h3⟩
/-- What can be dealt. -/
def dealP (cap len : Int) (l : List Rw) (wi ga n : Int) : Prop := (OkB cap len l ∧ winOk wi ∧ gateOk ga ∧ 1 ≤ n ∧ n ≤ 1073741824) ∧ ¬ (cap < outL l wi + n ∨ 1099511627776 < dealtL l wi ga + n ∨ (hasC (cR wi ga) l = false ∧ 10000 ≤ l.length))
theorem deal_bad (cap len : Int) (a : Option Addr) (c : Nat) (l : List Rw) (wi ga n : Int) (w : World) (hp : RwA w a l) (hm : l.length ≤ 9223372036854775807) (h : ¬ dealP cap len l wi ga n) :
    Calls Try.prog 10 #[.agg #[.int .i64 cap, .int .i64 len, .slice a l.length c], .int .i64 wi, .int .i64 ga, .int .i64 n] w fun e w' => (∃ k : Int, e = .returned (.tuple #[.agg #[.int .i64 0, .int .i64 0, .slice none 0 0], .int .i64 k]) ∧ (k == 0) = false) ∧ Below w.heap.size w w' := by
  by_cases h1 : OkB cap len l ∧ winOk wi ∧ gateOk ga ∧ 1 ≤ n ∧ n ≤ 1073741824
  · have h2 : cap < outL l wi + n ∨ 1099511627776 < dealtL l wi ga + n ∨ (hasC (cR wi ga) l = false ∧ 10000 ≤ l.length) := by
      rcases Classical.em (cap < outL l wi + n ∨ 1099511627776 < dealtL l wi ga + n ∨ (hasC (cR wi ga) l = false ∧ 10000 ≤ l.length)) with q | q
      · exact q
      · exact absurd ⟨h1, q⟩ h
    exact (deal_limit cap len a c l wi ga n w hp h1.1 h1.2.1 h1.2.2.1 h1.2.2.2 h2).mono fun e w' k => ⟨⟨2, k.1, rfl⟩, k.2⟩
  · exact (deal_arg cap len a c l wi ga n w hp hm h1).mono fun e w' k => ⟨⟨1, k.1, rfl⟩, k.2⟩
/-- All that is reckoned when the deal succeeds. -/
structure Comes (cap len : Int) (l : List Rw) (wi ga oth n : Int) (L1 L2 L3 : List Rw) (o y ba : Int) : Prop where
  ok1 : OkB cap len L1
  ok2 : OkB cap len L2
  ok3 : OkB cap len L3
  np : OkP len []
  o0 : outL l wi = o
  o1 : outL L1 wi = o + n
  o2 : outL L2 wi = o
  o3 : outL L3 wi = o + n
  y0 : dealtL l wi ga = y
  y1 : dealtL L1 wi ga = y + n
  yb : 0 ≤ y ∧ y + n ≤ 1099511627776
  ob : 0 ≤ o ∧ o + n ≤ 1073741824
  bb : 0 ≤ ba ∧ ba ≤ y
  bl : backL l wi ga = ba
  len1 : 0 < L1.length ∧ L1.length ≤ l.length + 1
  len2 : L2.length ≤ l.length + 1
  d2 : ¬ (cap < outL L2 wi + n ∨ 1099511627776 < dealtL L2 wi oth + n ∨ (hasC (cR wi oth) L2 = false ∧ 10000 ≤ L2.length))
theorem comes {cap len : Int} {l : List Rw} {wi ga oth n : Int} (h : dealP cap len l wi ga n) (hl : l.length ≤ 40) (ho : gateOk oth) (hd : dealtB cap len l wi oth ≤ 549755813888) :
    Comes cap len l wi ga oth n (dealL l wi ga n) (retL (dealL l wi ga n) wi ga (backL l wi ga + n)) (dealL (retL (dealL l wi ga n) wi ga (backL l wi ga + n)) wi oth n) (outL l wi) (dealtL l wi ga) (backL l wi ga) := by
  obtain ⟨⟨ok, p1, p2, p3, p4⟩, hlim⟩ := h
  have hlim1 : outL l wi + n ≤ cap ∧ dealtL l wi ga + n ≤ 1099511627776 := by omega
  have hd' : dealtL l wi oth ≤ 549755813888 := by unfold dealtB at hd; rwa [if_pos ok] at hd
  have hcap := ok.head.1
  have ob0 : 0 ≤ outL l wi := (outK_bd ok wi _ (Nat.le_refl _)).1
  have yb := dealt_bd ok wi ga
  have bb : 0 ≤ backL l wi ga ∧ backL l wi ga ≤ dealtL l wi ga := by
    unfold backL dealtL
    split
    · rename_i hh
      have h1 := (hasC_iff _ _).1 hh
      have := ok.v.rows _ (List.getElem_mem h1.1)
      rw [getEl h1.1]
      unfold rowOk at this
      exact this.2.2.2
    · exact ⟨Int.le_refl _, Int.le_refl _⟩
  obtain ⟨a1, a2, a3, a4, a5⟩ := deal_facts ok p1 p2 (by omega) hlim1.1 hlim1.2 (Or.inr (by omega))
  obtain ⟨b1, b2, b3, b4, b5⟩ := ret_facts (t := backL l wi ga + n) a1 a3.1 (by rw [a3.2.2]; omega) (by rw [a3.2.1]; omega)
  have e1 : outL (dealL l wi ga n) wi = outL l wi + n := by rw [a2, if_pos rfl]
  have e2 : outL (retL (dealL l wi ga n) wi ga (backL l wi ga + n)) wi = outL l wi := by rw [b2, if_pos rfl, e1, a3.2.2]; omega
  have e4 : dealtL (retL (dealL l wi ga n) wi ga (backL l wi ga + n)) wi oth + n ≤ 1099511627776 := by
    rw [b4]
    by_cases q : oth = ga
    · subst q; rw [a3.2.1]; omega
    · rw [a4 _ _ (fun k => q k.2)]; omega
  obtain ⟨c1, c2, -, -, -⟩ := deal_facts (n := n) b1 p1 ho (by omega) (by rw [e2]; omega) e4 (Or.inr (by omega))
  have l1 : 0 < (dealL l wi ga n).length := by
    obtain ⟨x, hx, -⟩ := has_at a3.1
    exact List.length_pos_of_mem hx
  exact ⟨a1, b1, c1, ⟨⟨ok.head.2.1, by simp⟩, fun k hk => by simp at hk⟩, rfl, e1, e2, by rw [c2, if_pos rfl, e2], rfl, a3.2.1, ⟨yb.1, hlim1.2⟩, ⟨ob0, by omega⟩, bb, rfl, ⟨l1, a5⟩, by omega, by rw [e2]; omega⟩
end Go.Proofs.Ytcgdhankllphgaa
