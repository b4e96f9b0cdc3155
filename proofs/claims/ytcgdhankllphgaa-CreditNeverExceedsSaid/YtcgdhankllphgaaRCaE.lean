import Derived.Test.YtcgdhankllphgaaRAmXb
import Derived.Test.YtcgdhankllphgaaRSB
import Derived.Test.YtcgdhankllphgaaRDO
import Derived.Test.YtcgdhankllphgaaRRT
import Derived.Test.YtcgdhankllphgaaRFO
import Derived.Test.YtcgdhankllphgaaRDR
import Derived.Test.YtcgdhankllphgaaRGV
import Derived.Test.YtcgdhankllphgaaRSP
import Derived.Test.YtcgdhankllphgaaRRV
namespace Go.Proofs.Ytcgdhankllphgaa
set_option linter.unusedVariables false
set_option linter.unusedSimpArgs false
set_option linter.unusedSectionVars false
namespace Am
open Go
set_option maxRecDepth 100000
section
variable [Base] {S : Nat → Prop} {F : Nat → Option Cn} {w : World}
abbrev rwA (l : List Rw) : AV := .sl (l.map fun x => vrow (encR x))
abbrev bkA (cap : Int) (l : List Rw) : AV := .agg [iv cap, iv 100, rwA l]
abbrev puA (l : List Rw) : AV := .agg [iv 100, rwA l]
theorem rows_lt {W : World} {a : Option Addr} {l : List Rw} (h : RwA W a l) (hl : 0 < l.length) : ∀ p, a = some p → p.block < W.heap.size := by
  intro p hp
  obtain ⟨b, off, e, h1⟩ := h 0 l[0] (List.getElem?_eq_getElem hl)
  rw [hp] at e
  cases e
  have := h1 0 _ rfl
  rcases Nat.lt_or_ge b W.heap.size with q | q
  · exact q
  · unfold World.cell? at this
    simp [Array.getElem?_eq_none q] at this
theorem bank_at {cap : Int} {l : List Rw} {v : Value} (h : VR S F0 w (bkA cap l) v) : ∃ a c, v = .agg #[.int .i64 cap, .int .i64 100, .slice a l.length c] ∧ RwA w a l := by
  obtain ⟨us, rfl, q⟩ := h.agg_eq
  obtain ⟨v1, r1, rfl, h1, q1⟩ := LR.inv q
  obtain ⟨v2, r2, rfl, h2, q2⟩ := LR.inv q1
  obtain ⟨v3, r3, rfl, h3, q3⟩ := LR.inv q2
  obtain ⟨a, c, rfl, -, hr, -⟩ := VR.rows (enc := encR) (by decide) encR_len h3
  rw [LR.inv0 q3, h1.v_eq, h2.v_eq]
  exact ⟨a, c, rfl, hr⟩
theorem purse_at {l : List Rw} {v : Value} (h : VR S F0 w (puA l) v) : ∃ a c, v = .agg #[.int .i64 100, .slice a l.length c] ∧ RwA w a l := by
  obtain ⟨us, rfl, q⟩ := h.agg_eq
  obtain ⟨v1, r1, rfl, h1, q1⟩ := LR.inv q
  obtain ⟨v2, r2, rfl, h2, q2⟩ := LR.inv q1
  obtain ⟨a, c, rfl, -, hr, -⟩ := VR.rows (enc := encR) (by decide) encR_len h2
  rw [LR.inv0 q2, h1.v_eq]
  exact ⟨a, c, rfl, hr⟩
theorem per_at {lo hi : Int} {v : Value} (h : VR S F w (.agg [iv lo, iv hi]) v) : v = per lo hi := VR.aggv (vs := [.int .i64 lo, .int .i64 hi]) h
theorem rows_of {S0 : Nat → Prop} {l : List Rw} {a : Option Addr} {c : Nat} {w w' : World} (hr : RwA w' a l) (hf : ∀ p, a = some p → w.heap.size ≤ p.block) : VR (fun b => S0 b ∨ (w.heap.size ≤ b ∧ b < w'.heap.size)) F0 w' (rwA l) (.slice a l.length c) :=
  VR.ofRows encR_len (by first | trivial | omega) hr (fun p hp h0 => .inr ⟨hf p hp, rows_lt hr h0 p hp⟩)
theorem bank_of {S0 : Nat → Prop} {cap : Int} {l : List Rw} {a : Option Addr} {c : Nat} {w w' : World} (hr : RwA w' a l) (hf : ∀ p, a = some p → w.heap.size ≤ p.block) : VR (fun b => S0 b ∨ (w.heap.size ≤ b ∧ b < w'.heap.size)) F0 w' (.tup [bkA cap l, iv 0]) (.tuple #[.agg #[.int .i64 cap, .int .i64 100, .slice a l.length c], .int .i64 0]) :=
  VR.tup' (LR.cons (LR.cons (.v _) (LR.cons (.v _) (LR.cons (rows_of hr hf) LR.nil))).agg (LR.cons (.v _) LR.nil))
theorem purse_of {S0 : Nat → Prop} {l : List Rw} {a : Option Addr} {c : Nat} {w w' : World} (hr : RwA w' a l) (hf : ∀ p, a = some p → w.heap.size ≤ p.block) : VR (fun b => S0 b ∨ (w.heap.size ≤ b ∧ b < w'.heap.size)) F0 w' (.tup [puA l, iv 0]) (.tuple #[.agg #[.int .i64 100, .slice a l.length c], .int .i64 0]) :=
  VR.tup' (LR.cons (LR.cons (.v _) (LR.cons (rows_of hr hf) LR.nil)).agg (LR.cons (.v _) LR.nil))
abbrev bk0 : AV := .agg [iv 0, iv 0, .v (.slice none 0 0)]
abbrev pu0 : AV := .agg [iv 0, .v (.slice none 0 0)]
theorem bank_err {S0 : Nat → Prop} (e : Int) : VR S0 F0 w (.tup [bk0, iv e]) (.tuple #[.agg #[.int .i64 0, .int .i64 0, .slice none 0 0], .int .i64 e]) := VR.tup' (LR.cons (VR.ofAgg [.int .i64 0, .int .i64 0, .slice none 0 0]) (LR.cons (.v _) LR.nil))
theorem purse_err {S0 : Nat → Prop} (e : Int) : VR S0 F0 w (.tup [pu0, iv e]) (.tuple #[.agg #[.int .i64 0, .slice none 0 0], .int .i64 e]) := VR.tup' (LR.cons (VR.ofAgg [.int .i64 0, .slice none 0 0]) (LR.cons (.v _) LR.nil))
theorem newbank_ec (cap : Int) (ok : OkB cap 100 []) : EC Try.prog 9 [] [iv cap, iv 100] [] (.tup [.agg [iv cap, iv 100, .v (.slice none 0 0)], iv 0]) :=
  EC.ofBelow ⟨_, _, Try.func9, rfl, rfl⟩ fun S w args _ _ hx => by
    obtain ⟨v0, r0, rfl, h0, q0⟩ := LR.inv hx
    obtain ⟨v1, r1, rfl, h1, q1⟩ := LR.inv q0
    rw [LR.inv0 q1, h0.v_eq, h1.v_eq]
    exact (newbank_yes cap 100 w ok).mono fun e w' ⟨he, hb⟩ => ⟨_, he, hb, VR.tup' (LR.cons (VR.ofAgg [.int .i64 cap, .int .i64 100, .slice none 0 0]) (LR.cons (.v _) LR.nil))⟩
theorem newpurse_ec (ok : OkP 100 []) : EC Try.prog 24 [] [iv 100] [] (.tup [.agg [iv 100, .v (.slice none 0 0)], iv 0]) :=
  EC.ofBelow ⟨_, _, Try.func24, rfl, rfl⟩ fun S w args _ _ hx => by
    obtain ⟨v0, r0, rfl, h0, q0⟩ := LR.inv hx
    rw [LR.inv0 q0, h0.v_eq]
    exact (newpurse_yes 100 w ok).mono fun e w' ⟨he, hb⟩ => ⟨_, he, hb, VR.tup' (LR.cons (VR.ofAgg [.int .i64 100, .slice none 0 0]) (LR.cons (.v _) LR.nil))⟩
theorem deal_ec (cap : Int) (l : List Rw) (wi ga n : Int) (ok : OkB cap 100 l) (p1 : winOk wi) (p2 : gateOk ga) (p3 : 1 ≤ n ∧ n ≤ 1073741824) (h : ¬ (cap < outL l wi + n ∨ 1099511627776 < dealtL l wi ga + n ∨ (hasC (cR wi ga) l = false ∧ 10000 ≤ l.length))) : EC Try.prog 10 [] [bkA cap l, iv wi, iv ga, iv n] [] (.tup [bkA cap (dealL l wi ga n), iv 0]) :=
  EC.ofBelow ⟨_, _, Try.func10, rfl, rfl⟩ fun S w args _ _ hx => by
    obtain ⟨v0, r0, rfl, h0, q0⟩ := LR.inv hx
    obtain ⟨v1, r1, rfl, h1, q1⟩ := LR.inv q0
    obtain ⟨v2, r2, rfl, h2, q2⟩ := LR.inv q1
    obtain ⟨v3, r3, rfl, h3, q3⟩ := LR.inv q2
    obtain ⟨a, c, rfl, hr⟩ := bank_at h0
    rw [LR.inv0 q3, h1.v_eq, h2.v_eq, h3.v_eq]
    exact (deal_ok cap 100 a c l wi ga n w hr ok p1 p2 p3 h).mono fun e w' ⟨⟨a', c', he, hr, hf⟩, hb⟩ => ⟨_, he, hb, bank_of hr hf⟩
theorem deal_lim_ec (cap : Int) (l : List Rw) (wi ga n : Int) (ok : OkB cap 100 l) (p1 : winOk wi) (p2 : gateOk ga) (p3 : 1 ≤ n ∧ n ≤ 1073741824) (h : cap < outL l wi + n ∨ 1099511627776 < dealtL l wi ga + n ∨ (hasC (cR wi ga) l = false ∧ 10000 ≤ l.length)) : EC Try.prog 10 [] [bkA cap l, iv wi, iv ga, iv n] [] (.tup [bk0, iv 2]) :=
  EC.ofBelow ⟨_, _, Try.func10, rfl, rfl⟩ fun S w args _ _ hx => by
    obtain ⟨v0, r0, rfl, h0, q0⟩ := LR.inv hx
    obtain ⟨v1, r1, rfl, h1, q1⟩ := LR.inv q0
    obtain ⟨v2, r2, rfl, h2, q2⟩ := LR.inv q1
    obtain ⟨v3, r3, rfl, h3, q3⟩ := LR.inv q2
    obtain ⟨a, c, rfl, hr⟩ := bank_at h0
    rw [LR.inv0 q3, h1.v_eq, h2.v_eq, h3.v_eq]
    exact (deal_limit cap 100 a c l wi ga n w hr ok p1 p2 p3 h).mono fun e w' ⟨he, hb⟩ => ⟨_, he, hb, bank_err 2⟩
theorem dealt_ec (cap : Int) (l : List Rw) (wi ga : Int) (ok : OkB cap 100 l) : EC Try.prog 20 [] [bkA cap l, iv wi, iv ga] [] (iv (dealtL l wi ga)) :=
  EC.ofBelow ⟨_, _, Try.func20, rfl, rfl⟩ fun S w args _ _ hx => by
    obtain ⟨v0, r0, rfl, h0, q0⟩ := LR.inv hx
    obtain ⟨v1, r1, rfl, h1, q1⟩ := LR.inv q0
    obtain ⟨v2, r2, rfl, h2, q2⟩ := LR.inv q1
    obtain ⟨a, c, rfl, hr⟩ := bank_at h0
    rw [LR.inv0 q2, h1.v_eq, h2.v_eq]
    exact (dealt_any cap 100 a c l wi ga w hr ok).mono fun e w' ⟨he, hb⟩ => ⟨_, he, hb, .v _⟩
theorem ret_ec (cap : Int) (l : List Rw) (wi ga n : Int) (ok : OkB cap 100 l) (p1 : winOk wi) (p2 : gateOk ga) (p3 : 0 ≤ n ∧ n ≤ dealtL l wi ga) : EC Try.prog 11 [] [bkA cap l, iv wi, iv ga, iv n] [] (.tup [bkA cap (retL l wi ga n), iv 0]) :=
  EC.ofBelow ⟨_, _, Try.func11, rfl, rfl⟩ fun S w args _ _ hx => by
    obtain ⟨v0, r0, rfl, h0, q0⟩ := LR.inv hx
    obtain ⟨v1, r1, rfl, h1, q1⟩ := LR.inv q0
    obtain ⟨v2, r2, rfl, h2, q2⟩ := LR.inv q1
    obtain ⟨v3, r3, rfl, h3, q3⟩ := LR.inv q2
    obtain ⟨a, c, rfl, hr⟩ := bank_at h0
    rw [LR.inv0 q3, h1.v_eq, h2.v_eq, h3.v_eq]
    exact (ret_ok cap 100 a c l wi ga n w hr ok p1 p2 p3).mono fun e w' ⟨⟨a', c', he, hr, hf⟩, hb⟩ => ⟨_, he, hb, bank_of hr hf⟩
theorem ret_err_ec (cap : Int) (l : List Rw) (wi ga n : Int) (hm : l.length ≤ 1000000) (p3 : ¬ (OkB cap 100 l ∧ winOk wi ∧ gateOk ga ∧ 0 ≤ n ∧ n ≤ dealtL l wi ga)) : EC Try.prog 11 [] [bkA cap l, iv wi, iv ga, iv n] [] (.tup [bk0, iv 1]) :=
  EC.ofBelow ⟨_, _, Try.func11, rfl, rfl⟩ fun S w args _ _ hx => by
    obtain ⟨v0, r0, rfl, h0, q0⟩ := LR.inv hx
    obtain ⟨v1, r1, rfl, h1, q1⟩ := LR.inv q0
    obtain ⟨v2, r2, rfl, h2, q2⟩ := LR.inv q1
    obtain ⟨v3, r3, rfl, h3, q3⟩ := LR.inv q2
    obtain ⟨a, c, rfl, hr⟩ := bank_at h0
    rw [LR.inv0 q3, h1.v_eq, h2.v_eq, h3.v_eq]
    exact (ret_arg cap 100 a c l wi ga n w hr (by omega) p3).mono fun e w' ⟨he, hb⟩ => ⟨_, he, hb, bank_err 1⟩
theorem forget_ec (cap : Int) (l : List Rw) (lo hi : Int) (ok : OkB cap 100 l) (p1 : perB lo hi = true) (hwn : ∀ x ∈ l, winOk x.1) : EC Try.prog 12 [] [bkA cap l, .agg [iv lo, iv hi]] [] (.tup [bkA cap (forgetL l 100 lo), iv 0]) :=
  EC.ofBelow ⟨_, _, Try.func12, rfl, rfl⟩ fun S w args _ _ hx => by
    obtain ⟨v0, r0, rfl, h0, q0⟩ := LR.inv hx
    obtain ⟨v1, r1, rfl, h1, q1⟩ := LR.inv q0
    obtain ⟨a, c, rfl, hr⟩ := bank_at h0
    rw [LR.inv0 q1, per_at h1]
    exact (forget_ok cap 100 a c l lo hi w hr ok p1 hwn).mono fun e w' ⟨⟨a', c', he, hr, hf⟩, hb⟩ => ⟨_, he, hb, bank_of hr hf⟩
theorem drop_ec (l : List Rw) (lo hi : Int) (ok : OkP 100 l) (p1 : perB lo hi = true) (hwn : ∀ x ∈ l, winOk x.1) : EC Try.prog 28 [] [puA l, .agg [iv lo, iv hi]] [] (.tup [puA (forgetL l 100 lo), iv 0]) :=
  EC.ofBelow ⟨_, _, Try.func28, rfl, rfl⟩ fun S w args _ _ hx => by
    obtain ⟨v0, r0, rfl, h0, q0⟩ := LR.inv hx
    obtain ⟨v1, r1, rfl, h1, q1⟩ := LR.inv q0
    obtain ⟨a, c, rfl, hr⟩ := purse_at h0
    rw [LR.inv0 q1, per_at h1]
    exact (drop_ok 100 a c l lo hi w hr ok p1 hwn).mono fun e w' ⟨⟨a', c', he, hr, hf⟩, hb⟩ => ⟨_, he, hb, purse_of hr hf⟩
theorem recv_ec (l : List Rw) (wi n : Int) (ok : OkP 100 l) (p1 : winOk wi) (p2 : 0 ≤ n ∧ n ≤ 1099511627776) (h : hasC (cW wi) l = true ∨ n = 0 ∨ l.length < 10000) : EC Try.prog 25 [] [puA l, iv wi, iv n] [] (.tup [puA (recvL l wi n), iv 0]) :=
  EC.ofBelow ⟨_, _, Try.func25, rfl, rfl⟩ fun S w args _ _ hx => by
    obtain ⟨v0, r0, rfl, h0, q0⟩ := LR.inv hx
    obtain ⟨v1, r1, rfl, h1, q1⟩ := LR.inv q0
    obtain ⟨v2, r2, rfl, h2, q2⟩ := LR.inv q1
    obtain ⟨a, c, rfl, hr⟩ := purse_at h0
    rw [LR.inv0 q2, h1.v_eq, h2.v_eq]
    exact (recv_ok 100 a c l wi n w hr ok p1 p2 h).mono fun e w' ⟨⟨a', c', he, hr, hf⟩, hb⟩ => ⟨_, he, hb, purse_of hr hf⟩
theorem spend_ec (l : List Rw) (lo hi : Int) (ok : OkP 100 l) (p1 : perB lo hi = true) (h : lo / 100 = hi / 100) (hl : leftX (coinL l (lo / 100)) ≠ 0) : EC Try.prog 26 [] [puA l, .agg [iv lo, iv hi]] [] (.tup [puA (spendL l (lo / 100)), iv 0]) :=
  EC.ofBelow ⟨_, _, Try.func26, rfl, rfl⟩ fun S w args _ _ hx => by
    obtain ⟨v0, r0, rfl, h0, q0⟩ := LR.inv hx
    obtain ⟨v1, r1, rfl, h1, q1⟩ := LR.inv q0
    obtain ⟨a, c, rfl, hr⟩ := purse_at h0
    rw [LR.inv0 q1, per_at h1]
    exact (spend_ok 100 a c l lo hi w hr ok p1 h hl).mono fun e w' ⟨⟨a', c', he, hr, hf⟩, hb⟩ => ⟨_, he, hb, purse_of hr hf⟩
theorem spend_time_ec (l : List Rw) (lo hi : Int) (ok : OkP 100 l) (p1 : perB lo hi = true) (h : lo / 100 ≠ hi / 100) : EC Try.prog 26 [] [puA l, .agg [iv lo, iv hi]] [] (.tup [pu0, iv 9]) :=
  EC.ofBelow ⟨_, _, Try.func26, rfl, rfl⟩ fun S w args _ _ hx => by
    obtain ⟨v0, r0, rfl, h0, q0⟩ := LR.inv hx
    obtain ⟨v1, r1, rfl, h1, q1⟩ := LR.inv q0
    obtain ⟨a, c, rfl, hr⟩ := purse_at h0
    rw [LR.inv0 q1, per_at h1]
    exact (spend_time 100 a c l lo hi w hr ok p1 h).mono fun e w' ⟨he, hb⟩ => ⟨_, he, hb, purse_err 9⟩
theorem spend_none_ec (l : List Rw) (lo hi : Int) (ok : OkP 100 l) (p1 : perB lo hi = true) (h : lo / 100 = hi / 100) (hl : leftX (coinL l (lo / 100)) = 0) : EC Try.prog 26 [] [puA l, .agg [iv lo, iv hi]] [] (.tup [pu0, iv 4]) :=
  EC.ofBelow ⟨_, _, Try.func26, rfl, rfl⟩ fun S w args _ _ hx => by
    obtain ⟨v0, r0, rfl, h0, q0⟩ := LR.inv hx
    obtain ⟨v1, r1, rfl, h1, q1⟩ := LR.inv q0
    obtain ⟨a, c, rfl, hr⟩ := purse_at h0
    rw [LR.inv0 q1, per_at h1]
    exact (spend_none 100 a c l lo hi w hr ok p1 h hl).mono fun e w' ⟨he, hb⟩ => ⟨_, he, hb, purse_err 4⟩
theorem give_ec (l : List Rw) (wi n : Int) (ok : OkP 100 l) (p1 : winOk wi) (p2 : 1 ≤ n ∧ n ≤ 1073741824) (h : ¬ leftX (coinL l wi) < n) : EC Try.prog 27 [] [puA l, iv wi, iv n] [] (.tup [puA (giveL l wi n), iv 0]) :=
  EC.ofBelow ⟨_, _, Try.func27, rfl, rfl⟩ fun S w args _ _ hx => by
    obtain ⟨v0, r0, rfl, h0, q0⟩ := LR.inv hx
    obtain ⟨v1, r1, rfl, h1, q1⟩ := LR.inv q0
    obtain ⟨v2, r2, rfl, h2, q2⟩ := LR.inv q1
    obtain ⟨a, c, rfl, hr⟩ := purse_at h0
    rw [LR.inv0 q2, h1.v_eq, h2.v_eq]
    exact (give_ok 100 a c l wi n w hr ok p1 p2 h).mono fun e w' ⟨⟨a', c', he, hr, hf⟩, hb⟩ => ⟨_, he, hb, purse_of hr hf⟩
theorem give_err_ec (l : List Rw) (wi n : Int) (ok : OkP 100 l) (p1 : winOk wi) (p2 : 1 ≤ n ∧ n ≤ 1073741824) (h : leftX (coinL l wi) < n) : EC Try.prog 27 [] [puA l, iv wi, iv n] [] (.tup [pu0, iv 4]) :=
  EC.ofBelow ⟨_, _, Try.func27, rfl, rfl⟩ fun S w args _ _ hx => by
    obtain ⟨v0, r0, rfl, h0, q0⟩ := LR.inv hx
    obtain ⟨v1, r1, rfl, h1, q1⟩ := LR.inv q0
    obtain ⟨v2, r2, rfl, h2, q2⟩ := LR.inv q1
    obtain ⟨a, c, rfl, hr⟩ := purse_at h0
    rw [LR.inv0 q2, h1.v_eq, h2.v_eq]
    exact (give_err 100 a c l wi n w hr ok p1 p2 h).mono fun e w' ⟨he, hb⟩ => ⟨_, he, hb, purse_err 4⟩
theorem back_ec (l : List Rw) (wi : Int) (ok : OkP 100 l) : EC Try.prog 39 [] [puA l, iv wi] [] (iv (coinL l wi).2.2.2) :=
  EC.ofBelow ⟨_, _, Try.func39, rfl, rfl⟩ fun S w args _ _ hx => by
    obtain ⟨v0, r0, rfl, h0, q0⟩ := LR.inv hx
    obtain ⟨v1, r1, rfl, h1, q1⟩ := LR.inv q0
    obtain ⟨a, c, rfl, hr⟩ := purse_at h0
    rw [LR.inv0 q1, h1.v_eq]
    exact (backp_any 100 a c l wi w hr ok).mono fun e w' ⟨he, hb⟩ => ⟨_, he, hb, .v _⟩
theorem sanity_ec  : EC Try.prog 8 [] [] [] (bv true) :=
  EC.ofBelow ⟨_, _, Try.func8, rfl, rfl⟩ fun S w args _ _ hx => by
    rw [LR.inv0 hx]
    exact (sanity_any w).mono fun e w' ⟨he, hb⟩ => ⟨_, he, hb, .v _⟩
end
end Am
end Go.Proofs.Ytcgdhankllphgaa
