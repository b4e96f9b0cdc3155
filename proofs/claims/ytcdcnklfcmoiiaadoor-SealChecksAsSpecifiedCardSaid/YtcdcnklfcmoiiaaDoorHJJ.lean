/- Ported from another seat (wip/hash/JJ.src, by wip/port.py): contracts that this chapter calls. -/
import Derived.Test.YtcdcnklfcmoiiaaDoorHII
namespace Go.Proofs.YtcdcnklfcmoiiaaDoor
set_option linter.unusedVariables false
set_option linter.unusedSimpArgs false
namespace Hs
open Go.RowKit
attribute [local go_sem] zeroSt
attribute [local simp] zeroSt_ne
set_option maxRecDepth 100000 in
theorem inFeedB_any (X : Array Value) (m l : List Nat) (a : Option Addr) (cap : Nat) (w : World) (h : InS X m) (hN : m.length + l.length < 1152921504606846976) (hb : BytesA w a l) (hc : l.length ≤ cap) (hla : LaidC w) :
    Calls Tryd.prog 85 #[.agg X, .slice a l.length cap] w fun e w' => (∃ Y, e = .returned (.agg Y) ∧ InS Y (m ++ l)) ∧ Below w.heap.size w w' := by
  obtain ⟨s, r, hI, rfl⟩ := h
  exact (feedM_bytes s r m l a cap w hI hN hb hb.lt hc hla).mono fun e w' ⟨s', r', h1, h2, h3⟩ => ⟨⟨_, h2, s', r', h1, rfl⟩, h3⟩
set_option maxRecDepth 100000 in
theorem inFeedS_any (X : Array Value) (m : List Nat) (t : ByteArray) (w : World) (h : InS X m) (hN : m.length + t.size < 1152921504606846976) (hla : LaidC w) :
    Calls Tryd.prog 87 #[.agg X, .string t] w fun e w' => (∃ Y, e = .returned (.agg Y) ∧ InS Y (m ++ sb t)) ∧ Below w.heap.size w w' := by
  obtain ⟨s, r, hI, rfl⟩ := h
  exact (feedM_string s r m (sb t) t w hI (by rw [sb_len]; exact hN) rfl hla).mono fun e w' ⟨s', r', h1, h2, h3⟩ => ⟨⟨_, h2, s', r', h1, rfl⟩, h3⟩
set_option maxRecDepth 100000 in
/-- wire.Int of a text's length, to be fed. -/
theorem sizeInt_any (n : Nat) (w : World) (hn : n ≤ 1000000) : Calls Tryd.prog 88 #[.int .i64 n] w fun e w' => (∃ a cap, e = .returned (.slice a (Wi.enc n).length cap) ∧ (Wi.enc n).length ≤ cap ∧ BytesA w' a (Wi.enc n)) ∧ Below w.heap.size w w' := by
  refine (Wi.int_any n w (by omega) (by omega)).mono ?_
  rintro e w' ⟨v, rfl, ho, hb⟩
  obtain ⟨a, cap, rfl, hc, y⟩ := OwnB.view ho (enc_lt _)
  exact ⟨⟨a, cap, rfl, hc, y⟩, hb⟩
end Hs
end Go.Proofs.YtcdcnklfcmoiiaaDoor
